import Derived.Test.YtpljdjmpamjkhaaGreatDoorXab
import Derived.Deep.Slices
set_option linter.unusedVariables false
set_option linter.unusedSimpArgs false
set_option maxHeartbeats 400000
namespace Go.Proofs.YtpljdjmpamjkhaaGreatDoor
open Go.RowKit Go.Lib
def Sv(W:World)(v:Value)(xs:List Value):Prop :=
 ∃ a cap,v=.slice a xs.length cap/\xs.length<=cap/\cap<=maxLen/\(a=none->cap=0) /\
  (0<xs.length->∃ b off,a=some ⟨b,off,none⟩/\b<W.heap.size/\∀ j x,xs[j]?=some x->W.cell? ⟨b,off+j,none⟩=some x)
theorem Sv.kept{W W':World}{v:Value}{xs:List Value}(h:Sv W v xs)(hb:Below W.heap.size W W'):Sv W' v xs:=by
 obtain⟨a,cap,rfl,h1,h2,h3,h4⟩:=h;refine⟨a,cap,rfl,h1,h2,h3,fun h0=>?_⟩;obtain⟨b,off,rfl,h5,h6⟩:=h4 h0;exact⟨b,off,rfl,jdS h5 hb.size,fun j x hj=>(hb.cell (p:=⟨b,off+j,none⟩) h5).trans (h6 j x hj)⟩
theorem Sv.nil(W:World):Sv W (.slice none 0 0) []:=⟨none,0,rfl,jdw _,by unfold maxLen;omega,fun _=>rfl,fun h=>by simp at h⟩
theorem Sv.of_own{W:World}{B e n:Nat}{v:Value}{xs:List Value}(h:W.ownsRow B e 1 v n xs):Sv W v xs:=by
 have hl:xs.length=n:=by have:=h.1;simpa using this
 obtain⟨_,h1⟩:=id h;rcases h1 with ⟨rfl,rfl⟩ | ⟨g,cap,cur,rfl,hb,hg,h4,h5,_⟩
 ·exact⟨none,0,by rw[hl],by omega,by unfold maxLen;omega,fun _=>rfl,fun h0=>by omega⟩
 ·refine⟨_,cap,by rw[hl],by omega,h5,fun h=>(by cases h),fun _=>⟨g,0,rfl,(Array.getElem?_eq_some_iff.1 hg).1,fun j x hj=>?_⟩⟩
  have:=h.cells (g:=g) rfl j _ hj;rw[mv]at this;rwa[jdZ]
theorem Sv.len{W:World}{v:Value}{xs:List Value}(h:Sv W v xs):xs.length<=maxLen:=by obtain⟨_,_,_,h1,h2,_⟩:=h;omega
theorem Sv.sx{k:IntKind}{W:World}{v:Value}{l:List Nat}(h:Sv W v (aF k l)):Sx k W v l:=by
 have hm:=h.len;obtain⟨a,cap,rfl,h1,h2,h3,h4⟩:=h;rw[ar]at *;refine⟨a,cap,rfl,hm,fun h0=>?_⟩;obtain⟨b,off,rfl,h5,h6⟩:=h4 h0;exact⟨b,off,rfl,h5,fun j hj=>h6 j _ (bU hj)⟩
theorem ve(l:List UInt8):aF .u8 (l.map UInt8.toNat)=aX l:=by simp[aF,aX]
theorem Gg{l:List Nat}(h:Bs l):aX (l.map Nat.toUInt8)=aF .u8 l:=by rw[← ve,ft h]
theorem Sv.sl{W:World}{v:Value}{l:List Nat}(hb:Bs l)(h:Sv W v (aF .u8 l)):Sl W v (l.map Nat.toUInt8):=by
 rw[← Gg hb]at h;obtain⟨a,cap,rfl,h1,h2,h3,h4⟩:=h;rw[mV]at *;refine⟨a,cap,rfl,h1,h2,fun h0=>?_⟩;obtain⟨b,off,rfl,h5,h6⟩:=h4 h0;exact⟨b,off,rfl,h5,fun j hj=>h6 j _ (Au hj)⟩
theorem Sv.take{W:World}{a:Option Addr}{n cap:Nat}{xs:List Value}(h:Sv W (.slice a n cap) xs){k:Nat}(hk:k<=xs.length):Sv W (.slice a k cap) (xs.take k):=by
 obtain⟨a',c,h1,h2,h3,h4,h5⟩:=h;simp only[Value.slice.injEq]at h1;obtain⟨rfl,_,rfl⟩:=h1;have hl:(xs.take k).length=k:=by rw[jdC];omega
 refine⟨_,cap,by rw[hl],by omega,h3,h4,fun h0=>?_⟩;obtain⟨b',off',h6,h7,h8⟩:=h5 (by omega);refine⟨b',off',h6,h7,fun j x hj=>h8 j x ?_⟩;have uS:=(List.getElem?_eq_some_iff.1 hj).1;rw[List.getElem?_take]at hj;rwa[jdu (by omega)]at hj
theorem Sv.drop{W:World}{b off n cap:Nat}{xs:List Value}(h:Sv W (.slice (some ⟨b,off,none⟩) n cap) xs){k:Nat}(hk:k<=xs.length){a:Addr}(ha:a=if cap=k then ⟨b,off,none⟩ else ⟨b,off+k,none⟩) :
  Sv W (.slice (some a) (n-k) (cap-k)) (xs.drop k):=by
 obtain⟨a',c,h1,h2,h3,h4,h5⟩:=h;simp only[Value.slice.injEq]at h1;obtain⟨rfl,rfl,rfl⟩:=h1;have hl:(xs.drop k).length=xs.length-k:=by rw[jd3]
 refine⟨_,_,by rw[hl],by omega,by omega,fun h=>(by cases h),fun h0=>?_⟩;obtain⟨b',off',h6,h7,h8⟩:=h5 (by omega);cases h6
 rw[jdt (by omega)]at ha;refine⟨b,off+k,by rw[ha],h7,fun j x hj=>?_⟩;rw[List.getElem?_drop]at hj;have:=h8 (k+j) x hj;rwa[← jeD]at this
def aD(W:World)(B:Nat)(v:Value)(bs:List Nat):Prop:=W.ownsRow B 5 1 v bs.length (aF .u8 bs)
theorem aD.nil(W:World)(B:Nat):aD W B (.slice none 0 0) []:=jeo _ _ _ _
theorem aD.kept{w w':World}{B:Nat}{v:Value}{bs:List Nat}(h:aD w B v bs)(hb:Below w.heap.size w w'):aD w' B v bs:=bL h hb
theorem aD.sv{W:World}{B:Nat}{v:Value}{bs:List Nat}(h:aD W B v bs):Sv W v (aF .u8 bs):=Sv.of_own h
def dw(w:World)(bs:List Nat)(e:Ending)(w':World):Prop:=(∃ v,e=.returned v/\aD w' w.heap.size v bs)/\Below w.heap.size w w'
theorem ax{w:World}{ops:Array Oper}{rest:List Oper}{o:Oper}{a:Act}{Q:Exit->Act->World->Prop}(ex:o.guard=none)(s x:Operand)
  (ho:o.op=.call { callee:=.builtin .append,args:=#[s,x],argTypes:=#[30,30] })
  (base:Nat) (v vx:Value) (l0 l:List Nat) (hs:a.eval s=v) (aA:aD w base v l0) (hx:a.eval x=vx) (fG:Sv w vx (aF .u8 l))
  (hbytes:l0.length+l.length<=140737488355328) (aJ:base<=w.heap.size)
  (h:∀ v' w',aD w' base v' (l0++l)->Below base w w'->wpList Tryz.prog ops Q rest (a.put o.dst v') w') :
  wpList Tryz.prog ops Q (o::rest) a w:=by
 obtain⟨i0,hi,ct,hz1',bv⟩:=jdP jk;unfold aD at *;obtain⟨ad,cap,rfl,h1,h2,h3,h4⟩:=fG;rw[ar]at *;cases ad with
 | none =>
  have hc:=h3 rfl;subst hc;have hl:l=[]:=jdV (by omega);subst hl;refine wpList_plain ex fun K hK=>?_
  have hr:=je9 (P:=Tryz.prog) (w:=w) base 30 o.type 5 i0 1 Tryz.underlying30 hi v l0.length (aF .u8 l0) aA;unfold Oper.wp execOp;simp only[ho,resolve,invoke,builtin,Sem.run_bind,Sem.run_pure,Result.andThen_ok,jeJ,jd5,jes,hs,hx,hr,jdX];refine hK _ _ (h v w ?_ (jdv _ _));rw[jdT];exact aA
 | some ad =>
  refine jeb (w:=w) ex s x 30 ho base 5 i0 (.int .u8 0) 1 1 Tryz.underlying30 hi ct hz1' bv rfl (by decide) v l0.length (aF .u8 l0) hs aA ad l.length cap (aF .u8 l) hx (by rw[ar];omega) ?_ (fU _ _) (by unfold maxLen;omega) (by omega) aJ ?_
  ·intro j u hu
   have hj:j<l.length:=by
    have:=(List.getElem?_eq_some_iff.1 hu).1;rwa[ar]at this
   obtain⟨b,off,h5,_,h6⟩:=h4 (by omega);cases h5
   rw[nh];exact h6 j u hu
  ·intro v' w' o1 g1 _ _
   refine h v' w' ?_ ((jdv base w).grown g1 aJ (fun k hk=>(aA.lt k hk).1));rw[cd,jdy];exact o1
def Fr(p B:Nat)(w w':World):Prop:=w'.os=w.os/\w'.tape=w.tape/\w'.output=w.output/\w.heap.size<=w'.heap.size/\∀ k,k<B->k≠p->w'.heap[k]?=w.heap[k]?
theorem Fr.os{p B:Nat}{w w':World}(h:Fr p B w w'):w'.os=w.os:=h.1
theorem Fr.tape{p B:Nat}{w w':World}(h:Fr p B w w'):w'.tape=w.tape:=h.2.1
theorem Fr.output{p B:Nat}{w w':World}(h:Fr p B w w'):w'.output=w.output:=h.2.2.1
theorem Fr.size{p B:Nat}{w w':World}(h:Fr p B w w'):w.heap.size<=w'.heap.size:=h.2.2.2.1
theorem Fr.block{p B:Nat}{w w':World}(h:Fr p B w w'):∀ k,k<B->k≠p->w'.heap[k]?=w.heap[k]?:=h.2.2.2.2
theorem Fr.refl(p B:Nat)(w:World):Fr p B w w:=⟨rfl,rfl,rfl,jdw _,fun _ _ _=>rfl⟩
theorem Fr.trans{p B:Nat}{a b c:World}(h:Fr p B a b)(k:Fr p B b c):Fr p B a c :=
 ⟨k.os.trans h.os,k.tape.trans h.tape,k.output.trans h.output,jdF h.size k.size,fun i hi hp=>(k.block i hi hp).trans (h.block i hi hp)⟩
theorem Fr.mono{p B B':Nat}{w w':World}(h:Fr p B w w')(hB:B'<=B):Fr p B' w w':=⟨h.os,h.tape,h.output,h.size,fun k hk hp=>h.block k (jdS hk hB) hp⟩
theorem Fr.of_below{p B:Nat}{w w':World}(h:Below B w w'):Fr p B w w':=⟨h.os,h.tape,h.output,h.size,fun k hk _=>h.block k hk⟩
theorem Fr.below{p B B':Nat}{w w':World}(h:Fr p B w w')(hp:B'<=p)(hB:B'<=B):Below B' w w':=⟨h.os,h.tape,h.output,h.size,fun k hk=>h.block k (by omega) (by omega)⟩
theorem Fr.set{p B:Nat}{w w':World}(h:Fr p B w w')(i:Nat)(v:Value):Fr p B w (w'.setCell ⟨p,i,none⟩ v):=by
 have h1:Below 0 w' (w'.setCell ⟨p,i,none⟩ v):=(jdv 0 w').setCell (jeh _) v;exact⟨h1.os.trans h.os,h1.tape.trans h.tape,h1.output.trans h.output,jdF h.size h1.size,fun k hk hp=>(Below.heap_setCell _ _ _ _ hp).trans (h.block k hk hp)⟩
theorem Fr.own{p:Nat}{w w':World}{B e size n:Nat}{v:Value}{xs:List Value}(hf:Fr p w.heap.size w w')(h:w.ownsRow B e size v n xs)(hp:p<B):w'.ownsRow B e size v n xs:=by
 obtain⟨hl,h⟩:=h;refine⟨hl,?_⟩;rcases h with h | ⟨g,cap,cur,h1,h2,h3,h4⟩
 ·exact Or.inl h
 ·have hg:g<w.heap.size:=(Array.getElem?_eq_some_iff.1 h3).1
  exact Or.inr ⟨g,cap,cur,h1,h2,(hf.block g hg (by omega)).trans h3,h4⟩
theorem cK{W:World}{p T:Nat}{c:Array Value}(h:W.heap[p]?=some (.cells c T (0,0)))(i:Nat)(v:Value):(W.setCell ⟨p,i,none⟩ v).heap[p]?=some (.cells (c.setIfInBounds i v) T (0,0)):=heap_setCell_same W p i c T v h
theorem ay{W:World}{p T:Nat}{c:Array Value}{fz:Nat×Nat}(h:W.heap[p]?=some (.cells c T fz))(i:Nat):W.cell? ⟨p,i,none⟩=c[i]?:=by
 simp[World.cell?,h]
def orf(f e:Nat):Nat:=if f=0 then e else f
theorem Fr.then{p B:Nat}{w w1 w2:World}(h:Fr p B w w1)(hb:Below B w1 w2):Fr p B w w2:=h.trans (Fr.of_below hb)
theorem eV(e:Nat):orf 0 e=e:=rfl
theorem eC{f:Nat}(h:f≠0)(e:Nat):orf f e=f:=by unfold orf;rw[jdt h]
theorem Sv.conv{W:World}{v:Value}{l:List Nat}(h:Sv W v (aF .u8 l))(hb:Bs l):(convert 30 9 v).run Tryz.prog W=.ok (txt l) W:=h.sx.conv hb
theorem QO{a b:List Nat}(ha:Bs a)(hb:Bs b):a.map Nat.toUInt8=b.map Nat.toUInt8↔a=b:=by
 constructor
 ·intro h
  rw[← ft ha,← ft hb,h]
 ·intro h
  rw[h]
theorem Sv.form1{W:World}{v:Value}{xs:List Value}(h:Sv W v xs):∃ a cap,v=.slice a xs.length cap/\xs.length<=cap/\cap<=maxLen:=by
 obtain⟨a,cap,h1,h2,h3,_⟩:=h;exact⟨a,cap,h1,h2,h3⟩
theorem Sv.at1{W:World}{a:Option Addr}{n cap:Nat}{xs:List Value}(h:Sv W (.slice a n cap) xs){k:Nat}{x:Value}(hk:xs[k]?=some x) :
  ∃ b off,a=some ⟨b,off,none⟩/\b<W.heap.size/\W.cell? ⟨b,off+k,none⟩=some x:=by
 obtain⟨a',cap',e,h1,h2,h3,h4⟩:=h;have aB:=(List.getElem?_eq_some_iff.1 hk).1;simp only[Value.slice.injEq]at e;obtain⟨rfl,_,_⟩:=e;obtain⟨b,off,rfl,h5,h6⟩:=h4 (by omega);exact⟨b,off,rfl,h5,h6 k x hk⟩
theorem am(w:World)(o:Obj):Below w.heap.size w (w.alloc o):=(jdv _ _).alloc (jdw _) _
theorem ai{a w w2:World}(h:Below a.heap.size a w)(h2:Below w.heap.size w w2):Below a.heap.size a w2:=h.trans (h2.mono h.size)
theorem ot(w:World)(l:List Nat)(hl:l.length<=maxLen):aD (w.alloc (.cells (aF .u8 l).toArray 5)) w.heap.size (.slice (some ⟨w.heap.size,0,none⟩) l.length l.length) l:=by
 have:=jeG (e:=5) (size:=1) w (aF .u8 l).toArray l.length (base:=w.heap.size) (jdw _) hl (by simp[aF]);exact this
theorem vk(w:World):aD (w.alloc (.cells #[] 5)) w.heap.size (.slice (some ⟨w.heap.size,0,none⟩) 0 0) []:=ot w [] (by unfold maxLen;simp)
theorem be{W:World}{B B' e size n:Nat}{v:Value}{xs:List Value}(h:W.ownsRow B' e size v n xs)(hb:B<=B'):W.ownsRow B e size v n xs:=by
 obtain⟨q1,q2⟩:=h;refine⟨q1,?_⟩;rcases q2 with q | ⟨a1,a2,a3,a4,a5,a6⟩
 ·exact Or.inl q
 ·exact Or.inr ⟨a1,a2,a3,a4,jdF hb a5,a6⟩
theorem aM{W:World}{B e size n:Nat}{v:Value}{xs:List Value}(h:W.ownsRow B e size v n xs):∃ a cap,v=.slice a n cap/\n<=cap/\cap<=maxLen:=by
 rcases h.2 with ⟨rfl,rfl⟩ | ⟨g,cap,cur,rfl,_,_,h1,h2,_⟩
 ·exact⟨none,0,rfl,jdw _,by unfold maxLen;omega⟩
 ·exact⟨_,cap,rfl,h1,h2⟩
theorem gq{W w1:World}(hb:Below W.heap.size W w1):(∀ b o,b<W.heap.size->w1.cell? ⟨b,o,none⟩=W.cell? ⟨b,o,none⟩)/\(∀ b o,b<W.heap.size->w1.frozen? ⟨b,o,none⟩=W.frozen? ⟨b,o,none⟩) :=
 ⟨fun b o h=>hb.cell (p:=⟨b,o,none⟩) h,fun b o h=>hb.frozen (p:=⟨b,o,none⟩) h⟩
theorem dJ(l:List Nat):txt l=.string (ak l):=rfl
theorem Av(v:Value)(w:World):(Instr.typeAssert (.iface 2 v) 78 2 true).run Tryz.prog w=.ok (.tuple #[v,.bool true]) w:=by kernel_rfl
theorem Gh(v:Value)(w:World):(Instr.typeAssert (.iface 4 v) 78 2 true).run Tryz.prog w=.ok (.tuple #[.int .i64 0,.bool false]) w:=by kernel_rfl
theorem Gi(v:Value)(w:World):(Instr.typeAssert (.iface 9 v) 78 2 true).run Tryz.prog w=.ok (.tuple #[.int .i64 0,.bool false]) w:=by kernel_rfl
theorem Aw(v:Value)(w:World):(Instr.typeAssert (.iface 4 v) 78 4 true).run Tryz.prog w=.ok (.tuple #[v,.bool true]) w:=by kernel_rfl
theorem Gj(v:Value)(w:World):(Instr.typeAssert (.iface 9 v) 78 4 true).run Tryz.prog w=.ok (.tuple #[.bool false,.bool false]) w:=by kernel_rfl
theorem Ax(v:Value)(w:World):(Instr.typeAssert (.iface 9 v) 78 9 true).run Tryz.prog w=.ok (.tuple #[v,.bool true]) w:=by kernel_rfl
theorem Gk(w:World):(Instr.typeAssert .nilIface 78 2 true).run Tryz.prog w=.ok (.tuple #[.int .i64 0,.bool false]) w:=by kernel_rfl
theorem Gl(w:World):(Instr.typeAssert .nilIface 78 4 true).run Tryz.prog w=.ok (.tuple #[.bool false,.bool false]) w:=by kernel_rfl
theorem Gm(w:World):(Instr.typeAssert .nilIface 78 9 true).run Tryz.prog w=.ok (.tuple #[.string ⟨#[]⟩,.bool false]) w:=by kernel_rfl
theorem Gn(w:World):Calls Tryz.prog 148 #[.nilIface] w fun e w'=>e=.returned (.tuple #[.agg #[.int .u8 0,.int .i64 0,.string ⟨#[]⟩],.bool true])/\Below w.heap.size w w':=by
 go_enter Tryz.func148,Tryz.ntmps148
 go_wp2;exact bodyPost_ret (v:=.tuple #[.agg #[.int .u8 0,.int .i64 0,.string ⟨#[]⟩],.bool true]) (by simp[results,Tryz.results148,go_sem]) rfl ⟨rfl,(jdv _ _).alloc (jdw _) _⟩
theorem Gp(n:Int)(w:World):Calls Tryz.prog 148 #[.iface 2 (.int .i64 n)] w fun e w'=>e=.returned (.tuple #[.agg #[.int .u8 1,.int .i64 n,.string ⟨#[]⟩],.bool true])/\Below w.heap.size w w':=by
 have t1:=Av;go_enter Tryz.func148,Tryz.ntmps148
 go_wp2;exact bodyPost_ret (v:=.tuple #[.agg #[.int .u8 1,.int .i64 n,.string ⟨#[]⟩],.bool true]) (by simp[results,Tryz.results148,go_sem]) rfl ⟨rfl,(jdv _ _).alloc (jdw _) _⟩
theorem CE(b:Bool)(w:World):Calls Tryz.prog 148 #[.iface 4 (.bool b)] w fun e w'=>e=.returned (.tuple #[.agg #[.int .u8 2,.int .i64 (if b then 1 else 0),.string ⟨#[]⟩],.bool true])/\Below w.heap.size w w':=by
 have t1:=Gh;have t2:=Aw;cases b
 ·go_enter Tryz.func148,Tryz.ntmps148
  go_wp2;exact bodyPost_ret (v:=.tuple #[.agg #[.int .u8 2,.int .i64 0,.string ⟨#[]⟩],.bool true]) (by simp[results,Tryz.results148,go_sem]) rfl ⟨rfl,(jdv _ _).alloc (jdw _) _⟩
 ·go_enter Tryz.func148,Tryz.ntmps148
  go_wp2;exact bodyPost_ret (v:=.tuple #[.agg #[.int .u8 2,.int .i64 1,.string ⟨#[]⟩],.bool true]) (by simp[results,Tryz.results148,go_sem]) rfl ⟨rfl,(jdv _ _).alloc (jdw _) _⟩
theorem xV(s:ByteArray)(w:World):Calls Tryz.prog 148 #[.iface 9 (.string s)] w fun e w'=>e=.returned (.tuple #[.agg #[.int .u8 3,.int .i64 0,.string s],.bool true])/\Below w.heap.size w w':=by
 have t1:=Gi;have t2:=Gj;have t3:=Ax;go_enter Tryz.func148,Tryz.ntmps148
 go_wp2;exact bodyPost_ret (v:=.tuple #[.agg #[.int .u8 3,.int .i64 0,.string s],.bool true]) (by simp[results,Tryz.results148,go_sem]) rfl ⟨rfl,(jdv _ _).alloc (jdw _) _⟩
def Val(v:Value)(k n:Int)(s:ByteArray):Prop :=
 (v=.nilIface/\k=0/\n=0/\s=⟨#[]⟩)∨(v=.iface 2 (.int .i64 n)/\k=1/\s=⟨#[]⟩)∨(∃ b:Bool,v=.iface 4 (.bool b)/\k=2/\n=(if b then 1 else 0)/\s=⟨#[]⟩)∨(v=.iface 9 (.string s)/\k=3/\n=0)
theorem pK{v:Value}{k n:Int}{s:ByteArray}(h:Val v k n s)(w:World):Calls Tryz.prog 148 #[v] w fun e w'=>e=.returned (.tuple #[.agg #[.int .u8 k,.int .i64 n,.string s],.bool true])/\Below w.heap.size w w':=by
 rcases h with ⟨rfl,rfl,rfl,rfl⟩ | ⟨rfl,rfl,rfl⟩ | ⟨b,rfl,rfl,rfl,rfl⟩ | ⟨rfl,rfl,rfl⟩
 ·exact Gn w
 ·exact Gp n w
 ·exact CE b w
 ·exact xV s w
theorem lK{v:Value}{k n:Int}{s:ByteArray}(h:Val v k n s)(w:World):Calls Tryz.prog 145 #[v] w fun e w'=>e=.returned (.tuple #[.agg #[.int .u8 k,.int .i64 n,.string s],.bool true])/\Below w.heap.size w w':=by
 go_enter Tryz.func145,Tryz.ntmps145
 go_wp2_with fail;refine(pK h _).mono ?_;rintro e w1 ⟨rfl,hb⟩;obtain⟨hc,hf⟩:=gq hb;have hz:w.heap.size<w1.heap.size:=by have:=hb.size;simp at this;omega
 go_wp2_with fail;refine bodyPost_ret (v:=.tuple #[.agg #[.int .u8 k,.int .i64 n,.string s],.bool true]) (by simp[results,Tryz.results145,go_sem,hc]) rfl ⟨rfl,?_⟩;exact((((((jdv _ _).alloc (jdw _) _).trans (hb.mono (by simp))).setCell (by simp) _).setCell (by simp) _).setCell (by simp) _)
def jA(k n:Int):Bool:=if (k==1)=true then true else if (k==2)=true then (if (n==0)=true then true else n==1) else n==0
def tx(k:Int)(s:ByteArray):Bool:=(k != 3) && !s.toList.isEmpty
def flt(k n:Int)(s:ByteArray):Int:=if 3<k then 10 else if tx k s=true then 1 else if jA k n=false then 1 else if 64<(s.size:Int) then 5 else 0
theorem vC{k:Int}{s:ByteArray}(h:tx k s=false):(k != 3)=false∨(k != 3)=true/\s.toList.isEmpty=true:=by
 unfold tx at h;cases h2:(k != 3)
 ·exact Or.inl rfl
 ·rw[h2]at h;right;simpa using h
theorem Ay{k:Int}{s:ByteArray}(h:tx k s=true):(k != 3)=true/\s.toList.isEmpty=false:=by
 unfold tx at h;rw[Bool.and_eq_true]at h;exact⟨h.1,by simpa using h.2⟩
theorem QP{s:ByteArray}(h:s.toList.isEmpty=true):s=⟨#[]⟩:=by
 have h1:s.toList=[]:=by simpa using h
 have h2:s.data.toList=[]:=by rw[← ByteArray.toList_eq];exact h1
 cases s with
 | mk d=>congr;exact Array.toList_eq_nil_iff.mp h2
theorem yQ(k n:Int)(s:ByteArray)(h0:0<=k)(w:World):Calls Tryz.prog 114 #[.agg #[.int .u8 k,.int .i64 n,.string s]] w fun e w'=>e=.returned (.int .i64 (flt k n s))/\Below w.heap.size w w':=by
 by_cases h1:3<k
 ·rw[show flt k n s=10 by unfold flt;rw[jdu h1]]
  clear h0;go_enter Tryz.func114,Tryz.ntmps114
  go_wp2;go_ret
  exact⟨rfl,(jdv _ _).alloc (jdw _) _⟩
 ·by_cases h2:tx k s=true
  ·rw[show flt k n s=1 by unfold flt;rw[jdt h1,jdu h2]]
   obtain⟨h3,h4⟩:=Ay h2;have h5:k<=3:=(by omega);clear h0 h1 h2;go_enter Tryz.func114,Tryz.ntmps114
   go_wp2;go_ret
   exact⟨rfl,(jdv _ _).alloc (jdw _) _⟩
  ·have h3:=vC (by simpa using h2)
   by_cases h4:k=3
   ·subst h4
    clear h0 h1 h2 h3;cases hn:(n==0)
    ·rw[show flt 3 n s=1 by unfold flt;simp[tx,jA,hn]]
     have LH:(n != 0)=true:=by simpa using hn
     go_enter Tryz.func114,Tryz.ntmps114
     go_wp2;go_ret
     exact⟨rfl,(jdv _ _).alloc (jdw _) _⟩
    ·have LH:(n != 0)=false:=by simpa using hn
     by_cases hs:64<(s.size:Int)
     ·rw[show flt 3 n s=5 by unfold flt;simp[tx,jA,hn];omega]
      go_enter Tryz.func114,Tryz.ntmps114
      go_wp2;go_ret
      exact⟨rfl,(jdv _ _).alloc (jdw _) _⟩
     ·rw[show flt 3 n s=0 by unfold flt;simp[tx,jA,hn];omega]
      have dN:(s.size:Int)<=64:=(by omega);clear hs;go_enter Tryz.func114,Tryz.ntmps114
      go_wp2;go_ret
      exact⟨rfl,(jdv _ _).alloc (jdw _) _⟩
   ·have h5:s=⟨#[]⟩:=by
     rcases h3 with h3 | h3
     ·simp at h3;omega
     ·exact QP h3.2
    subst h5;obtain rfl | rfl | rfl:k=0∨k=1∨k=2:=by omega
    ·clear h0 h1 h2 h3 h4
     cases hn:(n==0)
     ·rw[show flt 0 n ⟨#[]⟩=1 by unfold flt;simp[jA,hn]]
      have LH:(n != 0)=true:=by simpa using hn
      go_enter Tryz.func114,Tryz.ntmps114
      go_wp2;go_ret
      exact⟨rfl,(jdv _ _).alloc (jdw _) _⟩
     ·rw[show flt 0 n ⟨#[]⟩=0 by unfold flt;simp[jA,hn,tx,ByteArray.size]]
      have LH:(n != 0)=false:=by simpa using hn
      go_enter Tryz.func114,Tryz.ntmps114
      go_wp2;go_ret
      exact⟨rfl,(jdv _ _).alloc (jdw _) _⟩
    ·clear h0 h1 h2 h3 h4
     rw[show flt 1 n ⟨#[]⟩=0 by unfold flt;simp[jA,tx,ByteArray.size]];go_enter Tryz.func114,Tryz.ntmps114
     go_wp2;go_ret
     exact⟨rfl,(jdv _ _).alloc (jdw _) _⟩
    ·clear h0 h1 h2 h3 h4
     cases hn:(n==0)
     ·have LH:(n != 0)=true:=by simpa using hn
      cases hm:(n==1)
      ·rw[show flt 2 n ⟨#[]⟩=1 by unfold flt;simp[jA,hn,hm]]
       have py:(n != 1)=true:=by simpa using hm
       go_enter Tryz.func114,Tryz.ntmps114
       go_wp2;go_ret
       exact⟨rfl,(jdv _ _).alloc (jdw _) _⟩
      ·rw[show flt 2 n ⟨#[]⟩=0 by unfold flt;simp[jA,hn,hm,tx,ByteArray.size]]
       have py:(n != 1)=false:=by simpa using hm
       go_enter Tryz.func114,Tryz.ntmps114
       go_wp2;go_ret
       exact⟨rfl,(jdv _ _).alloc (jdw _) _⟩
     ·rw[show flt 2 n ⟨#[]⟩=0 by unfold flt;simp[jA,hn,tx,ByteArray.size]]
      have LH:(n != 0)=false:=by simpa using hn
      go_enter Tryz.func114,Tryz.ntmps114
      go_wp2;go_ret
      exact⟨rfl,(jdv _ _).alloc (jdw _) _⟩
theorem vD{k n:Int}{s:ByteArray}(h0:0<=k)(h:flt k n s=0):(k=0/\n=0/\s=⟨#[]⟩)∨(k=1/\s=⟨#[]⟩)∨(k=2/\n=0/\s=⟨#[]⟩)∨(k=2/\n=1/\s=⟨#[]⟩)∨(k=3/\n=0/\s.size<=64):=by
 unfold flt at h;by_cases h1:3<k
 ·rw[jdu h1]at h;omega
 ·rw[jdt h1]at h
  by_cases h2:tx k s=true
  ·rw[jdu h2]at h;omega
  ·rw[jdt h2]at h
   by_cases h3:jA k n=false
   ·rw[jdu h3]at h;omega
   ·rw[jdt h3]at h
    by_cases h4:64<(s.size:Int)
    ·rw[jdu h4]at h;omega
    ·have h5:=vC (by simpa using h2)
     have h6:k≠3->s=⟨#[]⟩:=by
      intro hk;rcases h5 with h5 | h5
      ·simp at h5;omega
      ·exact QP h5.2
     obtain rfl | rfl | rfl | rfl:k=0∨k=1∨k=2∨k=3:=by omega
     ·simp[jA]at h3;exact Or.inl ⟨rfl,h3,h6 (by omega)⟩
     ·exact Or.inr (Or.inl ⟨rfl,h6 (by omega)⟩)
     ·simp[jA]at h3
      by_cases hn:n=0
      ·exact Or.inr (Or.inr (Or.inl ⟨rfl,hn,h6 (by omega)⟩))
      ·exact Or.inr (Or.inr (Or.inr (Or.inl ⟨rfl,h3 hn,h6 (by omega)⟩)))
     ·simp[jA]at h3;exact Or.inr (Or.inr (Or.inr (Or.inr ⟨rfl,h3,by omega⟩)))
theorem Wl(k n:Int)(s:ByteArray)(h0:0<=k)(h:(flt k n s != 0)=true)(w:World):Calls Tryz.prog 73 #[.agg #[.int .u8 k,.int .i64 n,.string s]] w fun e w'=>e=.returned (.agg #[.int .u8 0,.int .i64 0,.string ⟨#[]⟩])/\Below w.heap.size w w':=by
 go_enter Tryz.func73,Tryz.ntmps73
 go_wp2_with fail;refine(yQ _ _ _ h0 _).mono ?_;rintro e w1 ⟨rfl,hb⟩;obtain⟨hc,hf⟩:=gq hb;have hz:w.heap.size+1<w1.heap.size:=by have:=hb.size;simp at this;omega
 clear h0;go_wp2_with fail;refine bodyPost_ret (v:=.agg #[.int .u8 0,.int .i64 0,.string ⟨#[]⟩]) (by simp[results,Tryz.results73,go_sem,hc]) rfl ⟨rfl,?_⟩;exact(((((((jdv _ _).alloc (jdw _) _).alloc (by simp) _).trans (hb.mono (by simp;omega))).setCell (by simp) _).setCell (by simp) _).setCell (by simp) _)
theorem QQ(k n:Int)(s:ByteArray)(h0:0<=k)(h:(flt k n s != 0)=false)(w:World):Calls Tryz.prog 73 #[.agg #[.int .u8 k,.int .i64 n,.string s]] w fun e w'=>e=.returned (.agg #[.int .u8 k,.int .i64 n,.string s])/\Below w.heap.size w w':=by
 go_enter Tryz.func73,Tryz.ntmps73
 go_wp2_with fail;refine(yQ _ _ _ h0 _).mono ?_;rintro e w1 ⟨rfl,hb⟩;obtain⟨hc,hf⟩:=gq hb;have hz:w.heap.size+1<w1.heap.size:=by have:=hb.size;simp at this;omega
 clear h0;go_wp2_with fail;refine bodyPost_ret (v:=.agg #[.int .u8 k,.int .i64 n,.string s]) (by simp[results,Tryz.results73,go_sem,hc]) rfl ⟨rfl,?_⟩;exact(((((((jdv _ _).alloc (jdw _) _).alloc (by simp) _).trans (hb.mono (by simp;omega))).setCell (by simp) _).setCell (by simp) _).setCell (by simp) _)
def fk(k n:Int)(s:ByteArray):Int:=if flt k n s=0 then k else 0
def fn(k n:Int)(s:ByteArray):Int:=if flt k n s=0 then n else 0
def fs(k n:Int)(s:ByteArray):ByteArray:=if flt k n s=0 then s else ⟨#[]⟩
theorem CF(k n:Int)(s:ByteArray)(h0:0<=k):(fk k n s=0/\fn k n s=0/\fs k n s=⟨#[]⟩)∨(fk k n s=1/\fs k n s=⟨#[]⟩)∨(fk k n s=2/\fn k n s=0/\fs k n s=⟨#[]⟩)∨(fk k n s=2/\fn k n s=1/\fs k n s=⟨#[]⟩)∨(fk k n s=3/\fn k n s=0/\(fs k n s).size<=64):=by
 unfold fk fn fs;by_cases h:flt k n s=0
 ·simp only[jdu h];exact vD h0 h
 ·simp only[jdt h];exact Or.inl (by simp)
theorem KT(k n:Int)(s:ByteArray)(h0:0<=k)(w:World):Calls Tryz.prog 73 #[.agg #[.int .u8 k,.int .i64 n,.string s]] w fun e w'=>e=.returned (.agg #[.int .u8 (fk k n s),.int .i64 (fn k n s),.string (fs k n s)])/\Below w.heap.size w w':=by
 unfold fk fn fs;by_cases h:flt k n s=0
 ·simp only[jdu h];exact QQ k n s h0 (by simpa using h) w
 ·simp only[jdt h];exact Wl k n s h0 (by simpa using h) w
theorem Mi(k n:Int)(s:ByteArray)(h0:0<=k)(w:World):Calls Tryz.prog 86 #[.agg #[.int .u8 k,.int .i64 n,.string s]] w fun e w'=>(∃ v,e=.returned v/\Val v (fk k n s) (fn k n s) (fs k n s))/\Below w.heap.size w w':=by
 have hf:=KT k n s h0;have hx:=CF k n s h0;generalize fk k n s=a at *;generalize fn k n s=b at *;generalize fs k n s=c at *;have HF:jfp (∀ w:World,Calls Tryz.prog 73 #[.agg #[.int .u8 k,.int .i64 n,.string s]] w fun e w'=>e=.returned (.agg #[.int .u8 a,.int .i64 b,.string c])/\Below w.heap.size w w'):=hf;clear hf h0;obtain⟨rfl,rfl,rfl⟩ | ⟨rfl,rfl⟩ | ⟨rfl,rfl,rfl⟩ | ⟨rfl,rfl,rfl⟩ | ⟨rfl,rfl,hs⟩:=hx
 ·go_enter Tryz.func86,Tryz.ntmps86
  go_wp2_with fail;refine(HF.o _).mono ?_;rintro e w1 ⟨rfl,hb⟩;obtain⟨hc,hf⟩:=gq hb;have hz:w.heap.size<w1.heap.size:=by have:=hb.size;simp at this;omega
  go_wp2_with fail;go_ret
  exact⟨⟨_,rfl,Or.inl ⟨rfl,rfl,rfl,rfl⟩⟩,((((((jdv _ _).alloc (jdw _) _).trans (hb.mono (by simp))).setCell (by simp) _).setCell (by simp) _).setCell (by simp) _)⟩
 ·go_enter Tryz.func86,Tryz.ntmps86
  go_wp2_with fail;refine(HF.o _).mono ?_;rintro e w1 ⟨rfl,hb⟩;obtain⟨hc,hf⟩:=gq hb;have hz:w.heap.size<w1.heap.size:=by have:=hb.size;simp at this;omega
  go_wp2_with fail;go_ret
  exact⟨⟨_,rfl,Or.inr (Or.inl ⟨rfl,rfl,rfl⟩)⟩,((((((jdv _ _).alloc (jdw _) _).trans (hb.mono (by simp))).setCell (by simp) _).setCell (by simp) _).setCell (by simp) _)⟩
 ·go_enter Tryz.func86,Tryz.ntmps86
  go_wp2_with fail;refine(HF.o _).mono ?_;rintro e w1 ⟨rfl,hb⟩;obtain⟨hc,hf⟩:=gq hb;have hz:w.heap.size<w1.heap.size:=by have:=hb.size;simp at this;omega
  go_wp2_with fail;go_ret
  exact⟨⟨_,rfl,Or.inr (Or.inr (Or.inl ⟨false,rfl,rfl,rfl,rfl⟩))⟩,((((((jdv _ _).alloc (jdw _) _).trans (hb.mono (by simp))).setCell (by simp) _).setCell (by simp) _).setCell (by simp) _)⟩
 ·go_enter Tryz.func86,Tryz.ntmps86
  go_wp2_with fail;refine(HF.o _).mono ?_;rintro e w1 ⟨rfl,hb⟩;obtain⟨hc,hf⟩:=gq hb;have hz:w.heap.size<w1.heap.size:=by have:=hb.size;simp at this;omega
  go_wp2_with fail;go_ret
  exact⟨⟨_,rfl,Or.inr (Or.inr (Or.inl ⟨true,rfl,rfl,rfl,rfl⟩))⟩,((((((jdv _ _).alloc (jdw _) _).trans (hb.mono (by simp))).setCell (by simp) _).setCell (by simp) _).setCell (by simp) _)⟩
 ·go_enter Tryz.func86,Tryz.ntmps86
  go_wp2_with fail;refine(HF.o _).mono ?_;rintro e w1 ⟨rfl,hb⟩;obtain⟨hc,hf⟩:=gq hb;have hz:w.heap.size<w1.heap.size:=by have:=hb.size;simp at this;omega
  go_wp2_with fail;go_ret
  exact⟨⟨_,rfl,Or.inr (Or.inr (Or.inr ⟨rfl,rfl,rfl⟩))⟩,((((((jdv _ _).alloc (jdw _) _).trans (hb.mono (by simp))).setCell (by simp) _).setCell (by simp) _).setCell (by simp) _)⟩
theorem CG{W:World}{base:Nat}{a:Addr}{cs:List Value}(h:W.cells? base a 3=some cs):∃ c0 c1 c2,cs=[c0,c1,c2]/\W.cell? (a.add 0)=some c0/\W.cell? (a.add 1)=some c1/\W.cell? (a.add 2)=some c2:=by
 obtain⟨_,hl,hc⟩:=World.cells?_some h;match cs,hl with
 | [c0,c1,c2],_=>exact⟨c0,c1,c2,rfl,by simpa using hc 0 (by omega),by simpa using hc 1 (by omega),by simpa using hc 2 (by omega)⟩
theorem vE:(Tryz.prog.info? 78).map (fun i=>(i.zero,i.size,i.bytes))=some (some .nilIface,1,16):=by kernel_rfl
end Go.Proofs.YtpljdjmpamjkhaaGreatDoor
