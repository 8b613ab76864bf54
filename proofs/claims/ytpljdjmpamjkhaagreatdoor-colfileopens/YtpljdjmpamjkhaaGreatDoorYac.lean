import Derived.Test.YtpljdjmpamjkhaaGreatDoorYab
import Derived.Deep.Slices
set_option linter.unusedVariables false
set_option linter.unusedSimpArgs false
namespace Go.Proofs.YtpljdjmpamjkhaaGreatDoor
open Go.RowKit Go.Lib
def Sv(W:World)(v:Value)(xs:List Value):Prop :=
 ∃ a cap,v=.slice a xs.length cap/\xs.length<=cap/\cap<=maxLen/\(a=none->cap=0) /\
  (0<xs.length->∃ b off,a=some ⟨b,off,none⟩/\b<W.heap.size/\∀ j x,xs[j]?=some x->W.cell? ⟨b,off+j,none⟩=some x)
theorem Sv.kept{W W':World}{v:Value}{xs:List Value}(h:Sv W v xs)(hb:Below W.heap.size W W'):Sv W' v xs:=by
 obtain⟨a,cap,rfl,h1,h2,h3,h4⟩:=h;refine⟨a,cap,rfl,h1,h2,h3,fun h0=>?_⟩;obtain⟨b,off,rfl,h5,h6⟩:=h4 h0;exact⟨b,off,rfl,Z9 h5 hb.size,fun j x hj=>(hb.cell (p:=⟨b,off+j,none⟩) h5).trans (h6 j x hj)⟩
theorem Sv.nil(W:World):Sv W (.slice none 0 0) []:=⟨none,0,rfl,ZR _,by unfold maxLen;omega,fun _=>rfl,fun h=>by simp at h⟩
theorem Sv.of_own{W:World}{B e n:Nat}{v:Value}{xs:List Value}(h:W.ownsRow B e 1 v n xs):Sv W v xs:=by
 have hl:xs.length=n:=by have:=h.1;simpa using this
 obtain⟨_,h1⟩:=id h;rcases h1 with ⟨rfl,rfl⟩ | ⟨g,cap,cur,rfl,hb,hg,h4,h5,_⟩
 ·exact⟨none,0,by rw[hl],by omega,by unfold maxLen;omega,fun _=>rfl,fun h0=>by omega⟩
 ·refine⟨_,cap,by rw[hl],by omega,h5,fun h=>(by cases h),fun _=>⟨g,0,rfl,(Array.getElem?_eq_some_iff.1 hg).1,fun j x hj=>?_⟩⟩
  have:=h.cells (g:=g) rfl j _ hj;rw[md]at this;rwa[jaf]
theorem Sv.len{W:World}{v:Value}{xs:List Value}(h:Sv W v xs):xs.length<=maxLen:=by obtain⟨_,_,_,h1,h2,_⟩:=h;omega
theorem Sv.sx{k:IntKind}{W:World}{v:Value}{l:List Nat}(h:Sv W v (aE k l)):Sx k W v l:=by
 have hm:=h.len;obtain⟨a,cap,rfl,h1,h2,h3,h4⟩:=h;rw[ap]at *;refine⟨a,cap,rfl,hm,fun h0=>?_⟩;obtain⟨b,off,rfl,h5,h6⟩:=h4 h0;exact⟨b,off,rfl,h5,fun j hj=>h6 j _ (bR hj)⟩
theorem uN(l:List UInt8):aE .u8 (l.map UInt8.toNat)=aV l:=by simp[aE,aV]
theorem EX{l:List Nat}(h:Bs l):aV (l.map Nat.toUInt8)=aE .u8 l:=by rw[← uN,ff h]
theorem Sv.sl{W:World}{v:Value}{l:List Nat}(hb:Bs l)(h:Sv W v (aE .u8 l)):Sl W v (l.map Nat.toUInt8):=by
 rw[← EX hb]at h;obtain⟨a,cap,rfl,h1,h2,h3,h4⟩:=h;rw[mG]at *;refine⟨a,cap,rfl,h1,h2,fun h0=>?_⟩;obtain⟨b,off,rfl,h5,h6⟩:=h4 h0;exact⟨b,off,rfl,h5,fun j hj=>h6 j _ (Aa hj)⟩
theorem Sv.take{W:World}{a:Option Addr}{n cap:Nat}{xs:List Value}(h:Sv W (.slice a n cap) xs){k:Nat}(hk:k<=xs.length):Sv W (.slice a k cap) (xs.take k):=by
 obtain⟨a',c,h1,h2,h3,h4,h5⟩:=h;simp only[Value.slice.injEq]at h1;obtain⟨rfl,_,rfl⟩:=h1;have hl:(xs.take k).length=k:=by rw[ZX];omega
 refine⟨_,cap,by rw[hl],by omega,h3,h4,fun h0=>?_⟩;obtain⟨b',off',h6,h7,h8⟩:=h5 (by omega);refine⟨b',off',h6,h7,fun j x hj=>h8 j x ?_⟩;have rF:=(List.getElem?_eq_some_iff.1 hj).1;rw[List.getElem?_take]at hj;rwa[if_pos (by omega)]at hj
theorem Sv.drop{W:World}{b off n cap:Nat}{xs:List Value}(h:Sv W (.slice (some ⟨b,off,none⟩) n cap) xs){k:Nat}(hk:k<=xs.length){a:Addr}(ha:a=if cap=k then ⟨b,off,none⟩ else ⟨b,off+k,none⟩) :
  Sv W (.slice (some a) (n-k) (cap-k)) (xs.drop k):=by
 obtain⟨a',c,h1,h2,h3,h4,h5⟩:=h;simp only[Value.slice.injEq]at h1;obtain⟨rfl,rfl,rfl⟩:=h1;have hl:(xs.drop k).length=xs.length-k:=by rw[jai]
 refine⟨_,_,by rw[hl],by omega,by omega,fun h=>(by cases h),fun h0=>?_⟩;obtain⟨b',off',h6,h7,h8⟩:=h5 (by omega);cases h6
 rw[if_neg (by omega)]at ha;refine⟨b,off+k,by rw[ha],h7,fun j x hj=>?_⟩;rw[List.getElem?_drop]at hj;have:=h8 (k+j) x hj;rwa[← jaQ]at this
def aC(W:World)(B:Nat)(v:Value)(bs:List Nat):Prop:=W.ownsRow B 5 1 v bs.length (aE .u8 bs)
theorem aC.nil(W:World)(B:Nat):aC W B (.slice none 0 0) []:=jaB _ _ _ _
theorem aC.kept{w w':World}{B:Nat}{v:Value}{bs:List Nat}(h:aC w B v bs)(hb:Below w.heap.size w w'):aC w' B v bs:=bH h hb
theorem aC.sv{W:World}{B:Nat}{v:Value}{bs:List Nat}(h:aC W B v bs):Sv W v (aE .u8 bs):=Sv.of_own h
def du(w:World)(bs:List Nat)(e:Ending)(w':World):Prop:=(∃ v,e=.returned v/\aC w' w.heap.size v bs)/\Below w.heap.size w w'
theorem ar{w:World}{ops:Array Oper}{rest:List Oper}{o:Oper}{a:Act}{Q:Exit->Act->World->Prop}(ee:o.guard=none)(s x:Operand)
  (ho:o.op=.call { callee:=.builtin .append,args:=#[s,x],argTypes:=#[30,30] })
  (base:Nat) (v vx:Value) (l0 l:List Nat) (hs:a.eval s=v) (az:aC w base v l0) (hx:a.eval x=vx) (fo:Sv w vx (aE .u8 l))
  (hbytes:l0.length+l.length<=140737488355328) (aH:base<=w.heap.size)
  (h:∀ v' w',aC w' base v' (l0++l)->Below base w w'->wpList Tryz.prog ops Q rest (a.put o.dst v') w') :
  wpList Tryz.prog ops Q (o::rest) a w:=by
 obtain⟨i0,hi,ce,hz1',bm⟩:=info_parts jf;unfold aC at *;obtain⟨ad,cap,rfl,h1,h2,h3,h4⟩:=fo;rw[ap]at *;cases ad with
 | none =>
  have hc:=h3 rfl;subst hc;have hl:l=[]:=jab (by omega);subst hl;refine wpList_plain ee fun K hK=>?_
  have hr:=run_append_owned_none (P:=Tryz.prog) (w:=w) base 30 o.type 5 i0 1 Tryz.underlying30 hi v l0.length (aE .u8 l0) az;unfold Oper.wp execOp;simp only[ho,resolve,invoke,builtin,Sem.run_bind,Sem.run_pure,Result.andThen_ok,jaU,jal,jaG,hs,hx,hr,jad];refine hK _ _ (h v w ?_ (ZQ _ _));rw[Z7];exact az
 | some ad =>
  refine wpList_append_own_at (w:=w) ee s x 30 ho base 5 i0 (.int .u8 0) 1 1 Tryz.underlying30 hi ce hz1' bm rfl (by decide) v l0.length (aE .u8 l0) hs az ad l.length cap (aE .u8 l) hx (by rw[ap];omega) ?_ (fP _ _) (by unfold maxLen;omega) (by omega) aH ?_
  ·intro j u hu
   have hj:j<l.length:=by
    have:=(List.getElem?_eq_some_iff.1 hu).1;rwa[ap]at this
   obtain⟨b,off,h5,_,h6⟩:=h4 (by omega);cases h5
   rw[pp];exact h6 j u hu
  ·intro v' w' o1 g1 _ _
   refine h v' w' ?_ ((ZQ base w).grown g1 aH (fun k hk=>(az.lt k hk).1));rw[bZ,ZT];exact o1
def Fr(p B:Nat)(w w':World):Prop:=w'.os=w.os/\w'.tape=w.tape/\w'.output=w.output/\w.heap.size<=w'.heap.size/\∀ k,k<B->k≠p->w'.heap[k]?=w.heap[k]?
theorem Fr.os{p B:Nat}{w w':World}(h:Fr p B w w'):w'.os=w.os:=h.1
theorem Fr.tape{p B:Nat}{w w':World}(h:Fr p B w w'):w'.tape=w.tape:=h.2.1
theorem Fr.output{p B:Nat}{w w':World}(h:Fr p B w w'):w'.output=w.output:=h.2.2.1
theorem Fr.size{p B:Nat}{w w':World}(h:Fr p B w w'):w.heap.size<=w'.heap.size:=h.2.2.2.1
theorem Fr.block{p B:Nat}{w w':World}(h:Fr p B w w'):∀ k,k<B->k≠p->w'.heap[k]?=w.heap[k]?:=h.2.2.2.2
theorem Fr.refl(p B:Nat)(w:World):Fr p B w w:=⟨rfl,rfl,rfl,ZR _,fun _ _ _=>rfl⟩
theorem Fr.trans{p B:Nat}{a b c:World}(h:Fr p B a b)(k:Fr p B b c):Fr p B a c :=
 ⟨k.os.trans h.os,k.tape.trans h.tape,k.output.trans h.output,ZZ h.size k.size,fun i hi hp=>(k.block i hi hp).trans (h.block i hi hp)⟩
theorem Fr.mono{p B B':Nat}{w w':World}(h:Fr p B w w')(hB:B'<=B):Fr p B' w w':=⟨h.os,h.tape,h.output,h.size,fun k hk hp=>h.block k (Z9 hk hB) hp⟩
theorem Fr.of_below{p B:Nat}{w w':World}(h:Below B w w'):Fr p B w w':=⟨h.os,h.tape,h.output,h.size,fun k hk _=>h.block k hk⟩
theorem Fr.below{p B B':Nat}{w w':World}(h:Fr p B w w')(hp:B'<=p)(hB:B'<=B):Below B' w w':=⟨h.os,h.tape,h.output,h.size,fun k hk=>h.block k (by omega) (by omega)⟩
theorem Fr.set{p B:Nat}{w w':World}(h:Fr p B w w')(i:Nat)(v:Value):Fr p B w (w'.setCell ⟨p,i,none⟩ v):=by
 have h1:Below 0 w' (w'.setCell ⟨p,i,none⟩ v):=(ZQ 0 w').setCell (jav _) v;exact⟨h1.os.trans h.os,h1.tape.trans h.tape,h1.output.trans h.output,ZZ h.size h1.size,fun k hk hp=>(Below.heap_setCell _ _ _ _ hp).trans (h.block k hk hp)⟩
theorem Fr.own{p:Nat}{w w':World}{B e size n:Nat}{v:Value}{xs:List Value}(hf:Fr p w.heap.size w w')(h:w.ownsRow B e size v n xs)(hp:p<B):w'.ownsRow B e size v n xs:=by
 obtain⟨hl,h⟩:=h;refine⟨hl,?_⟩;rcases h with h | ⟨g,cap,cur,h1,h2,h3,h4⟩
 ·exact Or.inl h
 ·have hg:g<w.heap.size:=(Array.getElem?_eq_some_iff.1 h3).1
  exact Or.inr ⟨g,cap,cur,h1,h2,(hf.block g hg (by omega)).trans h3,h4⟩
theorem cH{W:World}{p T:Nat}{c:Array Value}(h:W.heap[p]?=some (.cells c T (0,0)))(i:Nat)(v:Value):(W.setCell ⟨p,i,none⟩ v).heap[p]?=some (.cells (c.setIfInBounds i v) T (0,0)):=heap_setCell_same W p i c T v h
theorem ax{W:World}{p T:Nat}{c:Array Value}{fz:Nat×Nat}(h:W.heap[p]?=some (.cells c T fz))(i:Nat):W.cell? ⟨p,i,none⟩=c[i]?:=by
 simp[World.cell?,h]
def orf(f e:Nat):Nat:=if f=0 then e else f
theorem Fr.then{p B:Nat}{w w1 w2:World}(h:Fr p B w w1)(hb:Below B w1 w2):Fr p B w w2:=h.trans (Fr.of_below hb)
theorem eT(e:Nat):orf 0 e=e:=rfl
theorem ez{f:Nat}(h:f≠0)(e:Nat):orf f e=f:=by unfold orf;rw[if_neg h]
theorem Sv.conv{W:World}{v:Value}{l:List Nat}(h:Sv W v (aE .u8 l))(hb:Bs l):(convert 30 9 v).run Tryz.prog W=.ok (txt l) W:=h.sx.conv hb
theorem Nk{a b:List Nat}(ha:Bs a)(hb:Bs b):a.map Nat.toUInt8=b.map Nat.toUInt8↔a=b:=by
 constructor
 ·intro h
  rw[← ff ha,← ff hb,h]
 ·intro h
  rw[h]
theorem Sv.form1{W:World}{v:Value}{xs:List Value}(h:Sv W v xs):∃ a cap,v=.slice a xs.length cap/\xs.length<=cap/\cap<=maxLen:=by
 obtain⟨a,cap,h1,h2,h3,_⟩:=h;exact⟨a,cap,h1,h2,h3⟩
theorem Sv.at1{W:World}{a:Option Addr}{n cap:Nat}{xs:List Value}(h:Sv W (.slice a n cap) xs){k:Nat}{x:Value}(hk:xs[k]?=some x) :
  ∃ b off,a=some ⟨b,off,none⟩/\b<W.heap.size/\W.cell? ⟨b,off+k,none⟩=some x:=by
 obtain⟨a',cap',e,h1,h2,h3,h4⟩:=h;have aB:=(List.getElem?_eq_some_iff.1 hk).1;simp only[Value.slice.injEq]at e;obtain⟨rfl,_,_⟩:=e;obtain⟨b,off,rfl,h5,h6⟩:=h4 (by omega);exact⟨b,off,rfl,h5,h6 k x hk⟩
theorem ak(w:World)(o:Obj):Below w.heap.size w (w.alloc o):=(ZQ _ _).alloc (ZR _) _
theorem ai{a w w2:World}(h:Below a.heap.size a w)(h2:Below w.heap.size w w2):Below a.heap.size a w2:=h.trans (h2.mono h.size)
theorem nQ(w:World)(l:List Nat)(hl:l.length<=maxLen):aC (w.alloc (.cells (aE .u8 l).toArray 5)) w.heap.size (.slice (some ⟨w.heap.size,0,none⟩) l.length l.length) l:=by
 have:=jaT (e:=5) (size:=1) w (aE .u8 l).toArray l.length (base:=w.heap.size) (ZR _) hl (by simp[aE]);exact this
theorem uO(w:World):aC (w.alloc (.cells #[] 5)) w.heap.size (.slice (some ⟨w.heap.size,0,none⟩) 0 0) []:=nQ w [] (by unfold maxLen;simp)
theorem aZ{W:World}{B B' e size n:Nat}{v:Value}{xs:List Value}(h:W.ownsRow B' e size v n xs)(hb:B<=B'):W.ownsRow B e size v n xs:=by
 obtain⟨q1,q2⟩:=h;refine⟨q1,?_⟩;rcases q2 with q | ⟨a1,a2,a3,a4,a5,a6⟩
 ·exact Or.inl q
 ·exact Or.inr ⟨a1,a2,a3,a4,ZZ hb a5,a6⟩
theorem aM{W:World}{B e size n:Nat}{v:Value}{xs:List Value}(h:W.ownsRow B e size v n xs):∃ a cap,v=.slice a n cap/\n<=cap/\cap<=maxLen:=by
 rcases h.2 with ⟨rfl,rfl⟩ | ⟨g,cap,cur,rfl,_,_,h1,h2,_⟩
 ·exact⟨none,0,rfl,ZR _,by unfold maxLen;omega⟩
 ·exact⟨_,cap,rfl,h1,h2⟩
theorem kI{W w1:World}(hb:Below W.heap.size W w1):(∀ b o,b<W.heap.size->w1.cell? ⟨b,o,none⟩=W.cell? ⟨b,o,none⟩)/\(∀ b o,b<W.heap.size->w1.frozen? ⟨b,o,none⟩=W.frozen? ⟨b,o,none⟩) :=
 ⟨fun b o h=>hb.cell (p:=⟨b,o,none⟩) h,fun b o h=>hb.frozen (p:=⟨b,o,none⟩) h⟩
theorem ek(l:List Nat):txt l=.string (am l):=rfl
theorem Ab(v:Value)(w:World):(Instr.typeAssert (.iface 2 v) 78 2 true).run Tryz.prog w=.ok (.tuple #[v,.bool true]) w:=by kernel_rfl
theorem EY(v:Value)(w:World):(Instr.typeAssert (.iface 4 v) 78 2 true).run Tryz.prog w=.ok (.tuple #[.int .i64 0,.bool false]) w:=by kernel_rfl
theorem EZ(v:Value)(w:World):(Instr.typeAssert (.iface 9 v) 78 2 true).run Tryz.prog w=.ok (.tuple #[.int .i64 0,.bool false]) w:=by kernel_rfl
theorem Ac(v:Value)(w:World):(Instr.typeAssert (.iface 4 v) 78 4 true).run Tryz.prog w=.ok (.tuple #[v,.bool true]) w:=by kernel_rfl
theorem E0(v:Value)(w:World):(Instr.typeAssert (.iface 9 v) 78 4 true).run Tryz.prog w=.ok (.tuple #[.bool false,.bool false]) w:=by kernel_rfl
theorem Ad(v:Value)(w:World):(Instr.typeAssert (.iface 9 v) 78 9 true).run Tryz.prog w=.ok (.tuple #[v,.bool true]) w:=by kernel_rfl
theorem E1(w:World):(Instr.typeAssert .nilIface 78 2 true).run Tryz.prog w=.ok (.tuple #[.int .i64 0,.bool false]) w:=by kernel_rfl
theorem E2(w:World):(Instr.typeAssert .nilIface 78 4 true).run Tryz.prog w=.ok (.tuple #[.bool false,.bool false]) w:=by kernel_rfl
theorem E3(w:World):(Instr.typeAssert .nilIface 78 9 true).run Tryz.prog w=.ok (.tuple #[.string ⟨#[]⟩,.bool false]) w:=by kernel_rfl
theorem E4(w:World):Calls Tryz.prog 148 #[.nilIface] w fun e w'=>e=.returned (.tuple #[.agg #[.int .u8 0,.int .i64 0,.string ⟨#[]⟩],.bool true])/\Below w.heap.size w w':=by
 go_enter Tryz.func148,Tryz.ntmps148
 go_wp2;exact bodyPost_ret (v:=.tuple #[.agg #[.int .u8 0,.int .i64 0,.string ⟨#[]⟩],.bool true]) (by simp[results,Tryz.results148,go_sem]) rfl ⟨rfl,(ZQ _ _).alloc (ZR _) _⟩
theorem E5(n:Int)(w:World):Calls Tryz.prog 148 #[.iface 2 (.int .i64 n)] w fun e w'=>e=.returned (.tuple #[.agg #[.int .u8 1,.int .i64 n,.string ⟨#[]⟩],.bool true])/\Below w.heap.size w w':=by
 have t1:=Ab;go_enter Tryz.func148,Tryz.ntmps148
 go_wp2;exact bodyPost_ret (v:=.tuple #[.agg #[.int .u8 1,.int .i64 n,.string ⟨#[]⟩],.bool true]) (by simp[results,Tryz.results148,go_sem]) rfl ⟨rfl,(ZQ _ _).alloc (ZR _) _⟩
theorem B7(b:Bool)(w:World):Calls Tryz.prog 148 #[.iface 4 (.bool b)] w fun e w'=>e=.returned (.tuple #[.agg #[.int .u8 2,.int .i64 (if b then 1 else 0),.string ⟨#[]⟩],.bool true])/\Below w.heap.size w w':=by
 have t1:=EY;have t2:=Ac;cases b
 ·go_enter Tryz.func148,Tryz.ntmps148
  go_wp2;exact bodyPost_ret (v:=.tuple #[.agg #[.int .u8 2,.int .i64 0,.string ⟨#[]⟩],.bool true]) (by simp[results,Tryz.results148,go_sem]) rfl ⟨rfl,(ZQ _ _).alloc (ZR _) _⟩
 ·go_enter Tryz.func148,Tryz.ntmps148
  go_wp2;exact bodyPost_ret (v:=.tuple #[.agg #[.int .u8 2,.int .i64 1,.string ⟨#[]⟩],.bool true]) (by simp[results,Tryz.results148,go_sem]) rfl ⟨rfl,(ZQ _ _).alloc (ZR _) _⟩
theorem xD(s:ByteArray)(w:World):Calls Tryz.prog 148 #[.iface 9 (.string s)] w fun e w'=>e=.returned (.tuple #[.agg #[.int .u8 3,.int .i64 0,.string s],.bool true])/\Below w.heap.size w w':=by
 have t1:=EZ;have t2:=E0;have t3:=Ad;go_enter Tryz.func148,Tryz.ntmps148
 go_wp2;exact bodyPost_ret (v:=.tuple #[.agg #[.int .u8 3,.int .i64 0,.string s],.bool true]) (by simp[results,Tryz.results148,go_sem]) rfl ⟨rfl,(ZQ _ _).alloc (ZR _) _⟩
def Val(v:Value)(k n:Int)(s:ByteArray):Prop :=
 (v=.nilIface/\k=0/\n=0/\s=⟨#[]⟩)∨(v=.iface 2 (.int .i64 n)/\k=1/\s=⟨#[]⟩)∨(∃ b:Bool,v=.iface 4 (.bool b)/\k=2/\n=(if b then 1 else 0)/\s=⟨#[]⟩)∨(v=.iface 9 (.string s)/\k=3/\n=0)
theorem pq{v:Value}{k n:Int}{s:ByteArray}(h:Val v k n s)(w:World):Calls Tryz.prog 148 #[v] w fun e w'=>e=.returned (.tuple #[.agg #[.int .u8 k,.int .i64 n,.string s],.bool true])/\Below w.heap.size w w':=by
 rcases h with ⟨rfl,rfl,rfl,rfl⟩ | ⟨rfl,rfl,rfl⟩ | ⟨b,rfl,rfl,rfl,rfl⟩ | ⟨rfl,rfl,rfl⟩
 ·exact E4 w
 ·exact E5 n w
 ·exact B7 b w
 ·exact xD s w
theorem ly{v:Value}{k n:Int}{s:ByteArray}(h:Val v k n s)(w:World):Calls Tryz.prog 145 #[v] w fun e w'=>e=.returned (.tuple #[.agg #[.int .u8 k,.int .i64 n,.string s],.bool true])/\Below w.heap.size w w':=by
 go_enter Tryz.func145,Tryz.ntmps145
 go_wp2_with fail;refine(pq h _).mono ?_;rintro e w1 ⟨rfl,hb⟩;obtain⟨hc,hf⟩:=kI hb;have hz:w.heap.size<w1.heap.size:=by have:=hb.size;simp at this;omega
 go_wp2_with fail;refine bodyPost_ret (v:=.tuple #[.agg #[.int .u8 k,.int .i64 n,.string s],.bool true]) (by simp[results,Tryz.results145,go_sem,hc]) rfl ⟨rfl,?_⟩;exact((((((ZQ _ _).alloc (ZR _) _).trans (hb.mono (by simp))).setCell (by simp) _).setCell (by simp) _).setCell (by simp) _)
def uP(k n:Int):Bool:=if (k==1)=true then true else if (k==2)=true then (if (n==0)=true then true else n==1) else n==0
def tx(k:Int)(s:ByteArray):Bool:=(k != 3) && !s.toList.isEmpty
def flt(k n:Int)(s:ByteArray):Int:=if 3<k then 10 else if tx k s=true then 1 else if uP k n=false then 1 else if 64<(s.size:Int) then 5 else 0
theorem B8{k:Int}{s:ByteArray}(h:tx k s=false):(k != 3)=false∨(k != 3)=true/\s.toList.isEmpty=true:=by
 unfold tx at h;cases h2:(k != 3)
 ·exact Or.inl rfl
 ·rw[h2]at h;right;simpa using h
theorem Jn{k:Int}{s:ByteArray}(h:tx k s=true):(k != 3)=true/\s.toList.isEmpty=false:=by
 unfold tx at h;rw[Bool.and_eq_true]at h;exact⟨h.1,by simpa using h.2⟩
theorem Wx{s:ByteArray}(h:s.toList.isEmpty=true):s=⟨#[]⟩:=by
 have h1:s.toList=[]:=by simpa using h
 have h2:s.data.toList=[]:=by rw[← ByteArray.toList_eq];exact h1
 cases s with
 | mk d=>congr;exact Array.toList_eq_nil_iff.mp h2
theorem B9{k n:Int}{s:ByteArray}(h0:0<=k)(h:flt k n s=0):(k=0/\n=0/\s=⟨#[]⟩)∨(k=1/\s=⟨#[]⟩)∨(k=2/\n=0/\s=⟨#[]⟩)∨(k=2/\n=1/\s=⟨#[]⟩)∨(k=3/\n=0/\s.size<=64):=by
 unfold flt at h;by_cases h1:3<k
 ·rw[if_pos h1]at h;omega
 ·rw[if_neg h1]at h
  by_cases h2:tx k s=true
  ·rw[if_pos h2]at h;omega
  ·rw[if_neg h2]at h
   by_cases h3:uP k n=false
   ·rw[if_pos h3]at h;omega
   ·rw[if_neg h3]at h
    by_cases h4:64<(s.size:Int)
    ·rw[if_pos h4]at h;omega
    ·have h5:=B8 (by simpa using h2)
     have h6:k≠3->s=⟨#[]⟩:=by
      intro hk;rcases h5 with h5 | h5
      ·simp at h5;omega
      ·exact Wx h5.2
     obtain rfl | rfl | rfl | rfl:k=0∨k=1∨k=2∨k=3:=by omega
     ·simp[uP]at h3;exact Or.inl ⟨rfl,h3,h6 (by omega)⟩
     ·exact Or.inr (Or.inl ⟨rfl,h6 (by omega)⟩)
     ·simp[uP]at h3
      by_cases hn:n=0
      ·exact Or.inr (Or.inr (Or.inl ⟨rfl,hn,h6 (by omega)⟩))
      ·exact Or.inr (Or.inr (Or.inr (Or.inl ⟨rfl,h3 hn,h6 (by omega)⟩)))
     ·simp[uP]at h3;exact Or.inr (Or.inr (Or.inr (Or.inr ⟨rfl,h3,by omega⟩)))
theorem uQ:(Tryz.prog.info? 78).map (fun i=>(i.zero,i.size,i.bytes))=some (some .nilIface,1,16):=by kernel_rfl
theorem nc:∀{l m:List Nat},Bs l->Bs m->Op.bytesLess (l.map Nat.toUInt8) (m.map Nat.toUInt8)=decide (l<m)
 | [],[],_,_=>by simp[Op.bytesLess]
 | [],y::t,_,_=>by simp[Op.bytesLess]
 | x::s,[],_,_=>by simp[Op.bytesLess]
 | x::s,y::t,hl,hm=>by
  have ih:=nc (l:=s) (m:=t) (fun z hz=>hl z (by simp[hz])) (fun z hz=>hm z (by simp[hz]));have hx:=hl x (by simp);have hy:=hm y (by simp)
  have h1:(x.toUInt8<y.toUInt8)=(x<y):=by
   rw[UInt8.lt_iff_toNat_lt];simp[jaA hx,jaA hy]
  have h2:(x.toUInt8==y.toUInt8)=decide (x=y):=by
   by_cases h:x=y
   ·simp[h]
   ·have:x.toUInt8≠y.toUInt8:=fun e=>h (by
     have:=congrArg UInt8.toNat e;simpa [jaA hx,jaA hy]using this)
    simp[h,this]
  simp only[jal,Op.bytesLess,ih,h1,h2];have h3:(x::s<y::t)↔(x<y∨x=y/\s<t):=List.cons_lt_cons_iff;by_cases h:x<y<;>by_cases h':x=y<;>by_cases h'':s<t<;>simp[h3,h,h',h'']
def de(c:Nat×Int×List Nat):Value :=
 if c.1=0 then .nilIface else if c.1=1 then .iface 2 (.int .i64 c.2.1) else if c.1=2 then .iface 4 (.bool (decide (c.2.1=1))) else .iface 9 (txt c.2.2)
def aI(l:List (Nat×Int×List Nat)):List Value:=l.map de
def uR(c:Nat×Int×List Nat):List Value:=[.int .u8 (c.1:Int),.int .i64 c.2.1,txt c.2.2]
def iH(l:List (Nat×Int×List Nat)):List Value:=l.flatMap uR
theorem aF(l:List (Nat×Int×List Nat)):(aI l).length=l.length:=ZU _
theorem me(a b:List (Nat×Int×List Nat)):aI (a++b)=aI a++aI b:=Z8
theorem Ae(a b:List (Nat×Int×List Nat)):iH (a++b)=iH a++iH b:=jaV
theorem pr(c:Nat×Int×List Nat)(l:List (Nat×Int×List Nat)):iH (c::l)=uR c++iH l:=ja2
theorem qi:∀ l:List (Nat×Int×List Nat),(iH l).length=l.length*3
 | []=>rfl
 | c::t=>by
  rw[pr,ZT,qi t,ZW];simp[uR]
  omega
theorem cK{l:List (Nat×Int×List Nat)}{j:Nat}(h:j<l.length):(aI l)[j]?=some (de l[j]):=by simp[aI,h]
theorem yv:∀{l:List (Nat×Int×List Nat)} {j:Nat} (h:j<l.length),(iH l)[j*3]?=some (.int .u8 (l[j].1:Int))/\(iH l)[j*3+1]?=some (.int .i64 l[j].2.1)/\(iH l)[j*3+2]?=some (txt l[j].2.2)
 | c::t,0,h=>by simp[pr,uR]
 | c::t,j+1,h=>by
  have ih:=yv (l:=t) (j:=j) (by simpa using h);rw[pr]
  have e:∀ k,(uR c++iH t)[(j+1)*3+k]?=(iH t)[j*3+k]?:=fun k=>by
   rw[List.getElem?_append_right (by simp[uR];omega)];simp only[uR,ZW,jad];congr 1
   omega
  have e0:=e 0;simp only[jaC]at e0;rw[e0,e 1,e 2];simpa using ih
theorem qj(c:Nat×Int×List Nat):(de c).oneCell'=true:=by
 unfold de;split
 ·rfl
 ·split
  ·rfl
  ·split<;>rfl
theorem xE(l:List (Nat×Int×List Nat)):∀ u∈aI l,u.oneCell'=true:=by
 intro u hu;obtain⟨x,_,rfl⟩:=jaa.1 hu;exact qj x
def OwnV(W:World)(B:Nat)(v:Value)(l:List (Nat×Int×List Nat)):Prop:=W.ownsRow B 78 1 v l.length (aI l)
def gY(W:World)(B:Nat)(v:Value)(l:List (Nat×Int×List Nat)):Prop:=W.ownsRow B 52 3 v l.length (iH l)
theorem OwnV.nil(W:World)(B:Nat):OwnV W B (.slice none 0 0) []:=jaB _ _ _ _
theorem gY.nil(W:World)(B:Nat):gY W B (.slice none 0 0) []:=jaB _ _ _ _
theorem OwnV.kept{w w':World}{B:Nat}{v:Value}{l:List (Nat×Int×List Nat)}(h:OwnV w B v l)(hb:Below w.heap.size w w'):OwnV w' B v l:=bH h hb
theorem gY.kept{w w':World}{B:Nat}{v:Value}{l:List (Nat×Int×List Nat)}(h:gY w B v l)(hb:Below w.heap.size w w'):gY w' B v l:=bH h hb
theorem OwnV.sv{W:World}{B:Nat}{v:Value}{l:List (Nat×Int×List Nat)}(h:OwnV W B v l):Sv W v (aI l):=Sv.of_own h
def Sc(W:World)(v:Value)(l:List (Nat×Int×List Nat)):Prop :=
 ∃ a cap,v=.slice a l.length cap/\l.length<=cap/\cap<=maxLen/\(0<l.length->∃ b off,a=some ⟨b,off,none⟩/\b<W.heap.size/\∀ j x,(iH l)[j]?=some x->W.cell? ⟨b,off+j,none⟩=some x)
theorem Sc.kept{W W':World}{v:Value}{l:List (Nat×Int×List Nat)}(h:Sc W v l)(hb:Below W.heap.size W W'):Sc W' v l:=by
 obtain⟨a,cap,h1,h2,h3,h4⟩:=h;refine⟨a,cap,h1,h2,h3,fun h0=>?_⟩;obtain⟨b,off,h5,h6,h7⟩:=h4 h0;exact⟨b,off,h5,Z9 h6 hb.size,fun j x hj=>(hb.cell (p:=⟨b,off+j,none⟩) h6).trans (h7 j x hj)⟩
theorem gY.sc{W:World}{B:Nat}{v:Value}{l:List (Nat×Int×List Nat)}(h:gY W B v l):Sc W v l:=by
 rcases h with ⟨h0,⟨rfl,h1⟩ | ⟨g,cap,cur,rfl,h2,h3,h4,h5,h6,h7⟩⟩
 ·refine⟨none,0,by rw[h1],by omega,by unfold maxLen;omega,fun h=>by omega⟩
 ·refine⟨_,cap,rfl,h4,h5,fun _=>⟨g,0,rfl,(Array.getElem?_eq_some_iff.1 h3).1,fun j x hj=>?_⟩⟩
  rw[jaf];simp only[World.cell?,h3];rw[← h7]at hj;have aB:=(List.getElem?_eq_some_iff.1 hj).1;rw[ZX]at aB;rw[List.getElem?_take_of_lt (by omega)]at hj;simpa using hj
theorem Sc.at{W:World}{a:Option Addr}{n cap:Nat}{l:List (Nat×Int×List Nat)}(h:Sc W (.slice a n cap) l){k:Nat}(hk:k<l.length) :
  ∃ b off,a=some ⟨b,off,none⟩/\b<W.heap.size/\W.cell? ⟨b,off+k*3,none⟩=some (.int .u8 (l[k].1:Int))/\W.cell? ⟨b,off+k*3+1,none⟩=some (.int .i64 l[k].2.1)/\W.cell? ⟨b,off+k*3+2,none⟩=some (txt l[k].2.2):=by
 obtain⟨a',cap',e,h1,h2,h4⟩:=h;simp only[Value.slice.injEq]at e;obtain⟨rfl,_,_⟩:=e;obtain⟨b,off,rfl,h5,h6⟩:=h4 (by omega);obtain⟨c0,c1,c2⟩:=yv hk;refine⟨b,off,rfl,h5,h6 _ _ c0,?_,?_⟩
 ·rw[jaQ]
  exact h6 _ _ c1
 ·rw[jaQ]
  exact h6 _ _ c2
theorem aK(w:World)(v:Value)(t:Nat):(w.alloc (.cells #[v] t)).cell? ⟨w.heap.size,0,none⟩=some v:=by
 have:=cell_one_new w v t 0 v rfl;rw[md]at this;exact this
theorem rP(c:Nat×Int×List Nat)(h:c.1=0):de c=.nilIface:=if_pos h
theorem lz(c:Nat×Int×List Nat)(h:c.1≠0):∃ t u,de c=.iface t u:=by
 unfold de;rw[if_neg h];split
 ·exact⟨_,_,rfl⟩
 ·split
  ·exact⟨_,_,rfl⟩
  ·exact⟨_,_,rfl⟩
theorem gz{w:World}{ops:Array Oper}{rest:List Oper}{o:Oper}{a:Act}{Q:Exit->Act->World->Prop}(ee:o.guard=none)(s x:Operand)
  (ho:o.op=.call { callee:=.builtin .append,args:=#[s,x],argTypes:=#[79,79] })
  (base:Nat) (v:Value) (g:Nat) (z:Nat×Int×List Nat) (l0:List (Nat×Int×List Nat)) (hs:a.eval s=v) (az:OwnV w base v l0) (hx:a.eval x=.slice (some ⟨g,0,none⟩) 1 1) (hc:w.cell? ⟨g,0,none⟩=some (de z))
  (hbytes:l0.length<=100000) (aH:base<=w.heap.size)
  (h:∀ v' w',OwnV w' base v' (l0++[z])->Below base w w'->wpList Tryz.prog ops Q rest (a.put o.dst v') w') :
  wpList Tryz.prog ops Q (o::rest) a w:=by
 obtain⟨i0,hi,ce,hz1',bm⟩:=info_parts uQ;unfold OwnV at *
 refine wpList_append_own_at (w:=w) ee s x 79 ho base 78 i0 .nilIface 1 16 Tryz.underlying79 hi ce hz1' bm rfl (by decide) v l0.length (aI l0) hs az ⟨g,0,none⟩ 1 1 [de z] hx rfl ?_ (fun u hu=>by
  have:u=de z:=by simpa using hu
  subst this;exact qj z) (by unfold maxLen;omega) (by omega) aH ?_
 ·intro j u hu
  rw[md];cases j with
  | zero =>
   simp only[List.getElem?_cons_zero,Option.some.injEq]at hu;rw[← hu];exact hc
  | succ j=>simp at hu
 ·intro v' w' o1 g1 _ _
  refine h v' w' ?_ ((ZQ base w).grown g1 aH (fun k hk=>(az.lt k hk).1));rw[me,ZT];exact o1
theorem Wy:(Tryz.prog.info? 52).map (fun i=>(i.zero,i.size,i.bytes))=some (some (.agg #[.int .u8 0,.int .i64 0,.string ⟨#[]⟩]),3,32):=by kernel_rfl
theorem mH{w:World}{ops:Array Oper}{rest:List Oper}{o:Oper}{a:Act}{Q:Exit->Act->World->Prop}(ee:o.guard=none)(s x:Operand)
  (ho:o.op=.call { callee:=.builtin .append,args:=#[s,x],argTypes:=#[58,58] })
  (base:Nat) (v:Value) (g:Nat) (z:Nat×Int×List Nat) (l0:List (Nat×Int×List Nat)) (hs:a.eval s=v) (az:gY w base v l0) (hx:a.eval x=.slice (some ⟨g,0,none⟩) 1 1)
  (oD:w.cell? ⟨g,0,none⟩=some (.int .u8 (z.1:Int))) (lp:w.cell? ⟨g,1,none⟩=some (.int .i64 z.2.1)) (kx:w.cell? ⟨g,2,none⟩=some (txt z.2.2))
  (hbytes:l0.length<=100000) (aH:base<=w.heap.size)
  (h:∀ v' w',gY w' base v' (l0++[z])->Below base w w'->wpList Tryz.prog ops Q rest (a.put o.dst v') w') :
  wpList Tryz.prog ops Q (o::rest) a w:=by
 obtain⟨i0,hi,ce,hz1',bm⟩:=info_parts Wy;unfold gY at *
 refine wpList_append_own_at (w:=w) ee s x 58 ho base 52 i0 (.agg #[.int .u8 0,.int .i64 0,.string ⟨#[]⟩]) 3 32 Tryz.underlying58 hi ce hz1' bm rfl (by decide) v l0.length (iH l0) hs az ⟨g,0,none⟩ 1 1 (uR z) hx rfl ?_ (fun u hu=>by
  unfold uR at hu;simp only[Z6,jbm,or_false]at hu;rcases hu with rfl | rfl | rfl<;>rfl) (by unfold maxLen;omega) (by omega) aH ?_
 ·intro j u hu
  rw[md];unfold uR at hu;match j,hu with
  | 0,hu=>simp only[List.getElem?_cons_zero,Option.some.injEq]at hu;rw[← hu];exact oD
  | 1,hu=>simp only[List.getElem?_cons_succ,List.getElem?_cons_zero,Option.some.injEq]at hu;rw[← hu];exact lp
  | 2,hu=>simp only[List.getElem?_cons_succ,List.getElem?_cons_zero,Option.some.injEq]at hu;rw[← hu];exact kx
  | j+3,hu=>simp at hu
 ·intro v' w' o1 g1 _ _
  refine h v' w' ?_ ((ZQ base w).grown g1 aH (fun k hk=>(az.lt k hk).1));rw[Ae,ZT];have:iH [z]=uR z:=by simp[iH]
  rw[this];exact o1
def aU(c:Nat×Int×List Nat):Prop :=
 c=nul∨(∃ n,c=(1,n,[])/\I64 n)∨(∃ n:Nat,c=(2,(n:Int),[])/\n<2)∨(∃ s,c=(3,0,s)/\s.length<=64/\Bs s)
theorem aU.val{c:Nat×Int×List Nat}(h:aU c):Val (de c) (c.1:Int) c.2.1 (am c.2.2):=by
 rcases h with rfl | ⟨n,rfl,h⟩ | ⟨n,rfl,h⟩ | ⟨n,rfl,h⟩
 ·exact Or.inl ⟨rfl,rfl,rfl,rfl⟩
 ·exact Or.inr (Or.inl ⟨rfl,rfl,rfl⟩)
 ·refine Or.inr (Or.inr (Or.inl ⟨decide (((n:Nat):Int)=1),rfl,rfl,?_,rfl⟩))
  obtain rfl | rfl:n=0∨n=1:=by omega
  ·rfl
  ·rfl
 ·exact Or.inr (Or.inr (Or.inr ⟨rfl,rfl,rfl⟩))
def Okc(c:Nat×Int×List Nat):Prop:=c.1<256/\I64 c.2.1/\Bs c.2.2
def ch(c:Nat×Int×List Nat):Nat×Int×List Nat:=if flt (c.1:Int) c.2.1 (am c.2.2)=0 then c else nul
theorem jG{s:List Nat}(h:am s=⟨#[]⟩):s=[]:=by
 have:=congrArg ByteArray.size h;rw[bi]at this;exact jab this
theorem iQ{c:Nat×Int×List Nat}(h:Okc c):aU (ch c):=by
 unfold ch;split
 ·next h0 =>
  obtain⟨ck,cn,cs⟩:=c;obtain⟨g1,g2,g3⟩:=h;simp only at *;rcases B9 (by omega) h0 with ⟨a1,a2,a3⟩ | ⟨a1,a3⟩ | ⟨a1,a2,a3⟩ | ⟨a1,a2,a3⟩ | ⟨a1,a2,a3⟩
  ·have e1:ck=0:=by omega
   have e3:=jG a3;subst e1 a2 e3;exact Or.inl rfl
  ·have e1:ck=1:=by omega
   have e3:=jG a3;subst e1 e3;exact Or.inr (Or.inl ⟨cn,rfl,g2⟩)
  ·have e1:ck=2:=by omega
   have e3:=jG a3;subst e1 a2 e3;exact Or.inr (Or.inr (Or.inl ⟨0,rfl,by omega⟩))
  ·have e1:ck=2:=by omega
   have e3:=jG a3;subst e1 a2 e3;exact Or.inr (Or.inr (Or.inl ⟨1,rfl,by omega⟩))
  ·have e1:ck=3:=by omega
   subst e1 a2;rw[bi]at a3;exact Or.inr (Or.inr (Or.inr ⟨cs,rfl,a3,g3⟩))
 ·exact Or.inl rfl
theorem aU.okc{c:Nat×Int×List Nat}(h:aU c):Okc c:=by
 rcases h with rfl | ⟨n,rfl,h⟩ | ⟨n,rfl,hn⟩ | ⟨s,rfl,_,h⟩
 ·exact⟨by simp[nul],by simp[nul,I64],fun x hx=>by simp[nul]at hx⟩
 ·exact⟨by simp,h,fun x hx=>by simp at hx⟩
 ·exact⟨by simp,by simp only[I64];omega,fun x hx=>by simp at hx⟩
 ·exact⟨by simp,by simp[I64],h⟩
theorem Nl{v:Value}{c:Nat×Int×List Nat}(hf:aU c)(h:Val v (c.1:Int) c.2.1 (am c.2.2)):v=de c:=by
 rcases hf with rfl | ⟨n,rfl,_⟩ | ⟨n,rfl,hn⟩ | ⟨s,rfl,_⟩
 ·rcases h with ⟨h,_⟩ | ⟨_,h,_⟩ | ⟨b,_,h,_⟩ | ⟨_,h,_⟩
  ·exact h
  ·simp[nul]at h
  ·simp[nul]at h
  ·simp[nul]at h
 ·rcases h with ⟨_,h,_⟩ | ⟨h,_⟩ | ⟨b,_,h,_⟩ | ⟨_,h,_⟩
  ·simp at h
  ·exact h
  ·simp at h
  ·simp at h
 ·rcases h with ⟨_,h,_⟩ | ⟨_,h,_⟩ | ⟨b,h,_,h2,_⟩ | ⟨_,h,_⟩
  ·simp at h
  ·simp at h
  ·rw[h]
   simp only at h2;obtain rfl | rfl:n=0∨n=1:=by omega
   ·cases b
    ·rfl
    ·simp at h2
   ·cases b
    ·simp at h2
    ·rfl
  ·simp at h
 ·rcases h with ⟨_,h,_⟩ | ⟨_,h,_⟩ | ⟨b,_,h,_⟩ | ⟨h,_⟩
  ·simp at h
  ·simp at h
  ·simp at h
  ·exact h
theorem Sc.form{W:World}{v:Value}{l:List (Nat×Int×List Nat)}(h:Sc W v l):∃ a cap,v=.slice a l.length cap/\l.length<=cap/\cap<=maxLen:=by
 obtain⟨a,cap,h1,h2,h3,_⟩:=h;exact⟨a,cap,h1,h2,h3⟩
theorem dF(w:World)(x y z:Value)(t:Nat):(w.alloc (.cells #[x,y,z] t)).cell? ⟨w.heap.size,0,none⟩=some x/\(w.alloc (.cells #[x,y,z] t)).cell? ⟨w.heap.size,1,none⟩=some y/\(w.alloc (.cells #[x,y,z] t)).cell? ⟨w.heap.size,2,none⟩=some z:=by
 have h:=heap_alloc_new w (.cells #[x,y,z] t);exact⟨by rw[ax h];rfl,by rw[ax h];rfl,by rw[ax h];rfl⟩
theorem Af{α : Type}{l m:List α}{j:Nat}(h1:j<l.length)(h2:j<m.length)(h:l.take j=m.take j)(he:l[j]=m[j]):l.take (j+1)=m.take (j+1):=by
 rw[Z5 h1,Z5 h2,h,he]
end Go.Proofs.YtpljdjmpamjkhaaGreatDoor
