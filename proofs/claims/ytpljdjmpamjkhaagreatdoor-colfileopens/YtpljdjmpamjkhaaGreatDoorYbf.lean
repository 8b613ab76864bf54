import Derived.Test.YtpljdjmpamjkhaaGreatDoorYaq
import Derived.RangeFuncNested
import Derived.Lib.SlBytesConst
import Derived.Test.YtpljdjmpamjkhaaGreatDoorYbe
import Derived.Test.YtpljdjmpamjkhaaGreatDoorYax
set_option linter.unusedVariables false
set_option linter.unusedSimpArgs false
set_option maxRecDepth 100000
set_option maxHeartbeats 1000000
namespace Go.Proofs.YtpljdjmpamjkhaaGreatDoor
open Go.RowKit Go.Lib
def LitM(W:World)(base:Nat)(v:Value)(l:List Nat):Prop:=l=[67,70,49]/\∃ g,v=.slice (some ⟨g,0,none⟩) 3 3/\base<=g/\W.heap[g]?=some (.cells #[.int .u8 67,.int .u8 70,.int .u8 49] 5 (3,4))
def fJ(W:World)(base:Nat)(v:Value)(l:List Nat):Prop:=aC W base v l∨LitM W base v l
theorem fJ.grown{W W':World}{base:Nat}{row:Option Nat}{v:Value}{l:List Nat}(h:fJ W base v l)(hg:W.grownBy W' row)(fO:v.ownBlock=none∨v.ownBlock≠row):fJ W' base v l:=by
 rcases h with h | ⟨h1,g,rfl,h2,h3⟩
 ·exact Or.inl (World.ownsRow.kept h hg fO)
 ·refine Or.inr ⟨h1,g,rfl,h2,?_⟩
  have aB:=(Array.getElem?_eq_some_iff.1 h3).1
  rw[hg.block g aB (by
   rcases fO with h | h
   ·simp[Value.ownBlock]at h
   ·simpa [Value.ownBlock]using h)]
  exact h3
theorem fJ.kept{W W':World}{base:Nat}{v:Value}{l:List Nat}(h:fJ W base v l)(hb:Below W.heap.size W W'):fJ W' base v l:=by
 rcases h with h | ⟨h1,g,rfl,h2,h3⟩
 ·exact Or.inl (h.kept hb)
 ·exact Or.inr ⟨h1,g,rfl,h2,(hb.block g (Array.getElem?_eq_some_iff.1 h3).1).trans h3⟩
theorem fJ.lt{W:World}{base:Nat}{v:Value}{l:List Nat}(h:fJ W base v l):∀ k,v.ownBlock=some k->base<=k/\k<W.heap.size:=by
 intro k hk;rcases h with h | ⟨h1,g,rfl,h2,h3⟩
 ·exact World.ownsRow.lt h k hk
 ·simp[Value.ownBlock]at hk
  subst hk;exact⟨h2,(Array.getElem?_eq_some_iff.1 h3).1⟩
theorem fJ.block{W:World}{base:Nat}{v:Value}{l:List Nat}(h:fJ W base v l):∀ k,v.ownBlock=some k->∃ cur fz,W.heap[k]?=some (.cells cur 5 fz):=by
 intro k hk;rcases h with h | ⟨h1,g,rfl,h2,h3⟩
 ·rcases h.2 with ⟨rfl,_⟩ | ⟨g,cap,cur,rfl,_,Mu,_⟩
  ·simp[Value.ownBlock]at hk
  ·simp[Value.ownBlock]at hk
   subst hk;exact⟨_,_,Mu⟩
 ·simp[Value.ownBlock]at hk
  subst hk;exact⟨_,_,h3⟩
theorem fJ.slice{W:World}{base:Nat}{v:Value}{l:List Nat}(h:fJ W base v l):∃ a cap,v=.slice a l.length cap:=by
 rcases h with h | ⟨rfl,g,rfl,_⟩
 ·obtain⟨a,cap,e,_⟩:=aM h
  exact⟨a,cap,e⟩
 ·exact⟨_,_,rfl⟩
theorem fJ.sv{W:World}{base:Nat}{v:Value}{l:List Nat}(h:fJ W base v l):Sv W v (aE .u8 l):=by
 rcases h with h | ⟨rfl,g,rfl,_,h3⟩
 ·exact h.sv
 ·refine⟨_,3,rfl,ZR _,by unfold maxLen;omega,fun h=>(by cases h),fun _=>⟨g,0,rfl,(Array.getElem?_eq_some_iff.1 h3).1,fun j x hj=>?_⟩⟩
  rw[ax h3,jaf];simpa [aE]using hj
theorem qZ{W:World}{B:Nat}{t:TypeId}{u:Value}(hB:Boxed W B t u)(ht:t≠5){base:Nat}{v:Value}{l:List Nat}(h:fJ W base v l):some B≠v.ownBlock:=fun e=>by
 obtain⟨cur,fz,h1⟩:=h.block B e.symm;have:=(show W.heap[B]?=_ from hB).symm.trans h1;simp at this
 exact ht this.2.1
theorem re{w:World}(ty:TypeId)(base:Nat)(v vx:Value)(l0 l:List Nat)(az:fJ w base v l0)(fo:Sv w vx (aE .u8 l))(hp:0<l.length)(hbytes:l0.length+l.length<=140737488355328)(aH:base<=w.heap.size) :
  ∃ v' w',(Builtin.append_ #[30,30] ty #[v,vx]).run Tryz.prog w=.ok v' w'/\aC w' base v' (l0++l)/\w.grownBy w' v.ownBlock/\(v'.ownBlock=v.ownBlock∨v'.ownBlock=some w.heap.size):=by
 rcases az with az | ⟨rfl,g,rfl,hg,jN⟩
 ·exact oW ty base v vx l0 l az fo hbytes aH
 ·obtain⟨i0,hi,ce,hz1',bm⟩:=info_parts jf
  obtain⟨ad,cap,rfl,h1,h2,h3,h4⟩:=fo;rw[ap]at *;obtain⟨b,off,rfl,h5,h6⟩:=h4 hp
  have Yi:∀ j u,(aE .u8 l)[j]?=some u->w.cell? ((⟨b,off,none⟩:Addr).add j)=some u:=fun j u hu=>by
   rw[pp];exact h6 j u hu
  have hold:∀ j u,(aE .u8 [67,70,49])[j]?=some u->w.cell? ((⟨g,0,none⟩:Addr).add j)=some u:=fun j u hu=>by
   rw[pp,jaf,ax jN];simpa [aE]using hu
  have Kf:([67,70,49]:List Nat).length=3:=rfl
  have hr:=run_append_grow (P:=Tryz.prog) w 30 ty 5 i0 (.int .u8 0) Tryz.underlying30 hi ce ⟨g,0,none⟩ 3 3 (aE .u8 [67,70,49]) (by rw[hz1'];rfl) hold ⟨b,off,none⟩ l.length cap (aE .u8 l) (by rw[ap,hz1',ja8]) Yi (by omega) (by omega)
   (by rw[bm];exact growslice_fits (by omega) (by omega))
  refine⟨_,_,hr,?_,⟨rfl,rfl,rfl,by simp,fun k hk _=>Below.heap_alloc w.drew _ k hk⟩,Or.inr rfl⟩;have gJ:=grownCap_ge w (3+l.length) 3 5;have bw:grownCap w (3+l.length) 3 5<=maxLen:=grownCap_le_maxLen w (3+l.length) 3 5 (by unfold maxLen;omega);unfold aC;rw[ZT,Kf];refine⟨by rw[ap,ZT,Kf];omega,.inr ⟨w.heap.size,_,_,rfl,aH,heap_alloc_new w.drew _,gJ,bw,?_,?_⟩⟩
  ·simp only[Array.size_append,List.size_toArray,size_zeroCells,ap,Kf,Value.cells]
   simp
   omega
  ·simp only[Array.toList_append,Z4]
   rw[← Z4,← bZ];have hl4:(3+l.length)*1=(aE .u8 ([67,70,49]++l)).length:=by rw[ap,ZT,Kf];omega
   rw[hl4];exact jaF
theorem tF{w:World}{o:Oper}{a:Act}{K:Act->World->Prop}{Q:Exit->Act->World->Prop}(s x:Operand)
  (ho:o.op=.call { callee:=.builtin .append,args:=#[s,x],argTypes:=#[30,30] })
  (base:Nat) (v vx:Value) (l0 l:List Nat) (hs:a.eval s=v) (az:fJ w base v l0) (hx:a.eval x=vx) (fo:Sv w vx (aE .u8 l)) (hp:0<l.length) (hbytes:l0.length+l.length<=140737488355328) (aH:base<=w.heap.size)
  (h:∀ v' w',aC w' base v' (l0++l)->w.grownBy w' v.ownBlock->(v'.ownBlock=v.ownBlock∨v'.ownBlock=some w.heap.size)->K (a.put o.dst v') w'):Oper.wp Tryz.prog o a w K Q:=by
 obtain⟨v',w',hr,h2,h3,h4⟩:=re o.type base v vx l0 l az fo hp hbytes aH;unfold Oper.wp execOp;simp only[ho,resolve,invoke,builtin,Sem.run_bind,Sem.run_pure,Result.andThen_ok,jaU,jal,jaG,hs,hx,hr];exact h v' w' h2 h3 h4
theorem lm{w:World}{ops:Array Oper}{o:Oper}{a:Act}{K:Act->World->Prop}{Q:Exit->Act->World->Prop}{E:Prop}(ee:o.guard=none)(s x:Operand)
  (ho:o.op=.call { callee:=.builtin .append,args:=#[s,x],argTypes:=#[30,30] })
  (base:Nat) (v vx:Value) (l0 l:List Nat) (hs:a.eval s=v) (az:fJ w base v l0) (hx:a.eval x=vx) (fo:Sv w vx (aE .u8 l)) (hp:0<l.length) (hbytes:l0.length+l.length<=140737488355328) (aH:base<=w.heap.size)
  (h:∀ v' w',aC w' base v' (l0++l)->w.grownBy w' v.ownBlock->(v'.ownBlock=v.ownBlock∨v'.ownBlock=some w.heap.size)->K (a.put o.dst v') w') :
  if Region.wanted o (yielded ops a.tmps)=true then Oper.wp Tryz.prog o a w K Q else E:=by
 have hw:Region.wanted o (yielded ops a.tmps)=true:=by simp[Region.wanted,ee]
 rw[if_pos hw];exact tF s x ho base v vx l0 l hs az hx fo hp hbytes aH h
theorem jA{w:World}{ops:Array Oper}{rest:List Oper}{o:Oper}{a:Act}{Q:Exit->Act->World->Prop}(ee:o.guard=none)(s x:Operand)
  (ho:o.op=.call { callee:=.builtin .append,args:=#[s,x],argTypes:=#[30,30] })
  (base:Nat) (v vx:Value) (l0 l:List Nat) (hs:a.eval s=v) (az:fJ w base v l0) (hx:a.eval x=vx) (fo:Sv w vx (aE .u8 l)) (hp:0<l.length) (hbytes:l0.length+l.length<=140737488355328) (aH:base<=w.heap.size)
  (h:∀ v' w',aC w' base v' (l0++l)->w.grownBy w' v.ownBlock->(v'.ownBlock=v.ownBlock∨v'.ownBlock=some w.heap.size)->wpList Tryz.prog ops Q rest (a.put o.dst v') w') :
  wpList Tryz.prog ops Q (o::rest) a w :=
 wpList_plain ee fun K hK=>tF s x ho base v vx l0 l hs az hx fo hp hbytes aH fun v' w' h1 h2 h3=>hK _ _ (h v' w' h1 h2 h3)
theorem db{F:Fence}{n:Nat}{w:World}{o:Oper}{a:Act}{K:Act->World->Prop}{Q:Exit->Act->World->Prop}(s x:Operand)
  (ho:o.op=.call { callee:=.builtin .append,args:=#[s,x],argTypes:=#[30,30] })
  (base:Nat) (v vx:Value) (l0 l:List Nat) (hs:a.eval s=v) (az:fJ w base v l0) (hx:a.eval x=vx) (fo:Sv w vx (aE .u8 l)) (hp:0<l.length) (hbytes:l0.length+l.length<=140737488355328) (aH:base<=w.heap.size)
  (h:∀ v' w',aC w' base v' (l0++l)->w.grownBy w' v.ownBlock->(v'.ownBlock=v.ownBlock∨v'.ownBlock=some w.heap.size)->K (a.put o.dst v') w'):Oper.wpIn F n Tryz.prog o a w K Q:=by
 obtain⟨v',w',hr,h2,h3,h4⟩:=re o.type base v vx l0 l az fo hp hbytes aH;unfold Oper.wpIn;refine⟨by simp[Oper.about,ho,resolve,Target.leads,Sem.run_pure],?_⟩;rw[Oper.semAt_plain F _ _ (by rw[ho];intro c hc';cases hc')];simp[execOp,ho,resolve,invoke,builtin,hs,hx,hr,Result.andThen]
 exact h v' w' h2 h3 h4
theorem rg{F:Fence}{n:Nat}{w:World}{ops:Array Oper}{rest:List Oper}{o:Oper}{a:Act}{Q:Exit->Act->World->Prop}(ee:o.guard=none)(s x:Operand)
  (ho:o.op=.call { callee:=.builtin .append,args:=#[s,x],argTypes:=#[30,30] })
  (base:Nat) (v vx:Value) (l0 l:List Nat) (hs:a.eval s=v) (az:fJ w base v l0) (hx:a.eval x=vx) (fo:Sv w vx (aE .u8 l)) (hp:0<l.length) (hbytes:l0.length+l.length<=140737488355328) (aH:base<=w.heap.size)
  (h:∀ v' w',aC w' base v' (l0++l)->w.grownBy w' v.ownBlock->(v'.ownBlock=v.ownBlock∨v'.ownBlock=some w.heap.size)->wpListIn F n Tryz.prog ops Q rest (a.put o.dst v') w') :
  wpListIn F n Tryz.prog ops Q (o::rest) a w :=
 wpListIn_plain ee fun K hK=>db s x ho base v vx l0 l hs az hx fo hp hbytes aH fun v' w' h1 h2 h3=>hK _ _ (h v' w' h1 h2 h3)
def Bx2(W:World)(base B1 B2:Nat)(v1 v2:Value)(l1 l2:List Nat):Prop :=
 Boxed W B1 30 v1/\Boxed W B2 30 v2/\B1≠B2/\fJ W base v1 l1/\fJ W base v2 l2/\nk v1 v2/\base<=B1/\base<=B2
theorem Bx2.swap{W:World}{base B1 B2:Nat}{v1 v2:Value}{l1 l2:List Nat}(h:Bx2 W base B1 B2 v1 v2 l1 l2):Bx2 W base B2 B1 v2 v1 l2 l1:=by
 obtain⟨a,b,c,d,e,f,g,i⟩:=h;exact⟨b,a,c.symm,e,d,f.symm,i,g⟩
theorem Bx2.kept{W W':World}{base B1 B2:Nat}{v1 v2:Value}{l1 l2:List Nat}(h:Bx2 W base B1 B2 v1 v2 l1 l2)(hb:Below W.heap.size W W'):Bx2 W' base B1 B2 v1 v2 l1 l2:=by
 obtain⟨a,b,c,d,e,f,g,i⟩:=h;exact⟨(hb.block B1 a.lt).trans a,(hb.block B2 b.lt).trans b,c,d.kept hb,e.kept hb,f,g,i⟩
theorem Bx2.cells{W:World}{base B1 B2:Nat}{v1 v2:Value}{l1 l2:List Nat}(h:Bx2 W base B1 B2 v1 v2 l1 l2):(W.cell? ⟨B1,0,none⟩=some v1/\W.frozen? ⟨B1,0,none⟩=false)/\(W.cell? ⟨B2,0,none⟩=some v2/\W.frozen? ⟨B2,0,none⟩=false) :=
 ⟨⟨h.1.cell,h.1.frozen⟩,h.2.1.cell,h.2.1.frozen⟩
theorem Bx2.app{W w1:World}{base B1 B2:Nat}{v1 v2 v':Value}{l1 l2 l':List Nat}(h:Bx2 W base B1 B2 v1 v2 l1 l2)(aH:base<=W.heap.size)
  (ho:aC w1 base v' l') (hg:W.grownBy w1 v1.ownBlock) (he:v'.ownBlock=v1.ownBlock∨v'.ownBlock=some W.heap.size) :
  (w1.cell? ⟨B1,0,none⟩=some v1/\w1.frozen? ⟨B1,0,none⟩=false)/\Bx2 (w1.setCell ⟨B1,0,none⟩ v') base B1 B2 v' v2 l' l2/\Below base W (w1.setCell ⟨B1,0,none⟩ v'):=by
 obtain⟨a,b,c,d,e,f,g,i⟩:=h;have BT:Boxed w1 B1 30 v1:=a.kept hg (qZ a (by decide) d);have X6:Boxed w1 B2 30 v2:=b.kept hg (qZ b (by decide) d);have h2:fJ w1 base v2 l2:=e.grown hg f.symm.ne;have hb:Below base W w1:=(ZQ base W).grown hg aH (fun k hk=>(d.lt k hk).1)
 refine⟨⟨BT.cell,BT.frozen⟩,⟨BT.set v',X6.kept (grownBy_setCell' w1 B1 v') (by intro e;exact c (by cases e;rfl)),c,Or.inl (World.ownsRow.kept ho (grownBy_setCell' w1 B1 v') (Or.inr (BT.not_row (by decide) ho).symm)),
  h2.grown (grownBy_setCell' w1 B1 v') (Or.inr (qZ BT (by decide) h2).symm),f.grow he (fun k hk=>(e.lt k hk).2),g,i⟩,?_⟩
 exact hb.setCell (p:=⟨B1,0,none⟩) g v'
theorem ec{W W':World}(h:Below W.heap.size W W'):KeepsOthers W W':=by
 refine KeepsOthers.of_grownBy (row:=none) ⟨h.os,h.tape,h.output,h.size,fun k hk _=>h.block k hk⟩ (fun j o e=>by cases e)
theorem Bx2.keeps{W w1:World}{base B1 B2:Nat}{v1 v2 v':Value}{l1 l2:List Nat}(h:Bx2 W base B1 B2 v1 v2 l1 l2)(hg:W.grownBy w1 v1.ownBlock):KeepsOthers W (w1.setCell ⟨B1,0,none⟩ v'):=by
 obtain⟨a,b,c,d,e,f,g,i⟩:=h;refine(KeepsOthers.of_grownBy hg fun j o ej hj=>?_).trans (KeepsOthers.setCell _ _ _);obtain⟨cur,fz,h1⟩:=d.block j ej;rw[h1]at hj;cases hj
 rfl
theorem Bx2.other{W w1:World}{base B1 B2 p:Nat}{v1 v2 v':Value}{l1 l2:List Nat}(h:Bx2 W base B1 B2 v1 v2 l1 l2)(hg:W.grownBy w1 v1.ownBlock){t:TypeId}{u:Value}(hp:Boxed W p t u)(ht:t≠5)(Hd:t≠30):Boxed (w1.setCell ⟨B1,0,none⟩ v') p t u:=by
 obtain⟨a,b,c,d,e,f,g,i⟩:=h;have h1:Boxed w1 p t u:=hp.kept hg (qZ hp ht d);refine h1.kept (grownBy_setCell' w1 B1 v') (fun e=>?_);cases e
 have:=(show _=_ from hp).symm.trans (show _=_ from a);simp at this
 exact Hd this.2
theorem Bx2.turned{W W':World}{base B1 B2:Nat}{v1 v2:Value}{l1 l2:List Nat}{row:Option Nat}(h:Bx2 W base B1 B2 v1 v2 l1 l2)(hg:W.grownBy W' row)(hr:∀ r,row=some r->∃ o:Obj,W.heap[r]?=some o/\o.isCells=false):Bx2 W' base B1 B2 v1 v2 l1 l2:=by
 obtain⟨a,b,c,d,e,f,g,i⟩:=h
 have hbox:∀{p t v},Boxed W p t v->some p≠row:=fun hp e=>by
  obtain⟨o,h1,h2⟩:=hr _ e.symm;rw[show W.heap[_]?=_ from hp]at h1;cases h1
  cases h2
 have jO:∀{v l},fJ W base v l->v.ownBlock=none∨v.ownBlock≠row:=fun{v l} hv=>by
  cases hb:v.ownBlock with
  | none=>exact Or.inl rfl
  | some k =>
   refine Or.inr fun e=>?_
   obtain⟨o,h1,h2⟩:=hr _ e.symm;obtain⟨cur,fz,h3⟩:=hv.block k hb;rw[h3]at h1;cases h1
   cases h2
 exact⟨a.kept hg (hbox a),b.kept hg (hbox b),c,d.grown hg (jO d),e.grown hg (jO e),f,g,i⟩
theorem fJ.deferred{W W':World}{base D:Nat}{v:Value}{l:List Nat}{o:Obj}(h:fJ W base v l)(hg:W.grownBy W' v.ownBlock)(hD:W.heap[D]?=some o)(ho:o.isCells=false):W'.heap[D]?=some o:=by
 refine(hg.block D (Array.getElem?_eq_some_iff.1 hD).1 (fun e=>?_)).trans hD;obtain⟨cur,fz,h1⟩:=h.block D e.symm;rw[h1]at hD;cases hD
 cases ho
theorem Bx2.keepV{W w1:World}{base B1 B2:Nat}{v1 v2 v':Value}{l1 l2:List Nat}(h:Bx2 W base B1 B2 v1 v2 l1 l2)(hg:W.grownBy w1 v1.ownBlock){B e size n:Nat}{u:Value}{xs:List Value}(hv:W.ownsRow B e size u n xs)(he:e≠5)(he2:e≠30):(w1.setCell ⟨B1,0,none⟩ v').ownsRow B e size u n xs:=by
 obtain⟨a,b,c,d,e',f,g,i⟩:=h
 have h1:w1.ownsRow B e size u n xs:=hv.kept hg (by
  cases hb:u.ownBlock with
  | none=>exact Or.inl rfl
  | some k =>
   refine Or.inr fun e1=>?_
   obtain⟨cur,fz,h3⟩:=d.block k e1.symm;rcases hv.2 with ⟨rfl,_⟩ | ⟨g,cap,cur2,rfl,_,Mu,_⟩
   ·simp[Value.ownBlock]at hb
   ·simp[Value.ownBlock]at hb
    subst hb;rw[h3]at Mu;simp at Mu
    exact he Mu.2.1.symm)
 have BT:Boxed w1 B1 30 v1:=a.kept hg (qZ a (by decide) d);exact h1.kept (grownBy_setCell' w1 B1 v') (Or.inr (BT.not_row (fun e1=>he2 e1.symm) h1).symm)
theorem LD{W W':World}{D:Nat}{o:Obj}(hb:Below W.heap.size W W')(hD:W.heap[D]?=some o):W'.heap[D]?=some o:=(hb.block D (Array.getElem?_eq_some_iff.1 hD).1).trans hD
theorem fJ.below{W W':World}{base:Nat}{v:Value}{l:List Nat}(h:fJ W base v l)(hg:W.grownBy W' v.ownBlock)(hb:base<=W.heap.size):Below base W W':=(ZQ base W).grown hg hb (fun k hk=>(h.lt k hk).1)
open Go.Shelf
attribute [local go_sem] Oper.semAt_some
theorem kU(cs:List Cl):∃ n:Nat,(ct cs).nulls=(n:Int)/\n<=cs.length:=by
 unfold ct;split
 ·exact⟨cs.length,rfl,ZR _⟩
 ·next x r h =>
  have hl:(aY cs).length<=cs.length:=jbf _ _;rw[h]at hl;exact⟨cs.length-(x::r).length,by show (cs.length:Int)-_=_;omega,by omega⟩
theorem lV{fs:List Fd}{p:List Row}(h:jJ fs p)(k:Nat):∀ c∈cT p k,aU c:=fun c hc=>by
 obtain⟨r,hr,rfl⟩:=jaa.1 hc;rw[List.getD_eq_getElem?_getD];cases hg:r[k]? with
 | none=>exact Or.inl rfl
 | some y=>exact(h r hr).2 y (List.mem_of_getElem? hg)
theorem ov{st:Stt}(h1:aU st.lo)(h2:aU st.hi)(hn:∃ n:Nat,st.nulls=(n:Int)/\n<=1000000):(es st).length<=160/\Bs (es st):=by
 obtain⟨n,hn,VU⟩:=hn;have hu:=bI (n:=n) (by omega);have b1:=lT h1;have b2:=lT h2
 have hb:∀{c:Cl},aU c->Bs (gq c):=fun{c} hc=>by
  unfold gq;split
  ·exact gL
  ·split
   ·intro x hx
    have:=jay.1 hx;omega
   ·refine Bs.app gL ?_
    rcases hc with rfl | ⟨m,rfl,_⟩ | ⟨m,rfl,_⟩ | ⟨s,rfl,_,h8⟩
    ·exact fun x hx=>by simp[nul]at hx
    ·exact fun x hx=>by simp at hx
    ·exact fun x hx=>by simp at hx
    ·exact h8
 unfold es;rw[hn,jah];refine⟨?_,Bs.app (Bs.app gL (fun x hx=>?_)) (Bs.app ?_ ?_)⟩
 ·simp only[ZT,jan]
  split<;>split<;>(try simp only[jad])<;>omega
 ·have:=jay.1 hx
  have:=TV st;omega
 ·split
  ·exact hb h1
  ·exact fun x hx=>by simp at hx
 ·split
  ·exact hb h2
  ·exact fun x hx=>by simp at hx
theorem JM{fs:List Fd}{p:List Row}(h:jJ fs p)(hl:p.length<=256)(k:Nat):aU (ct (cT p k)).lo/\aU (ct (cT p k)).hi/\∃ n:Nat,(ct (cT p k)).nulls=(n:Int)/\n<=1000000:=by
 obtain⟨h1,h2⟩:=kp (lV h k);obtain⟨n,h3,h4⟩:=kU (cT p k);rw[dp]at h4;exact⟨h1,h2,n,h3,by omega⟩
theorem lW{fs:List Fd}{p:List Row}(dT:∀ k,k<fs.length->Col (lO fs k) (cT p k)):∀{k:Nat},k<=fs.length->(eL fs p k).length<=21600*k/\Bs (eL fs p k):=by
 intro k;induction k with
 | zero=>exact fun _=>⟨by simp[eL],fun x hx=>by simp[eL]at hx⟩
 | succ k ih =>
  intro hk;obtain⟨h1,h2⟩:=ih (by omega);obtain⟨h3,h4⟩:=il (dT k (by omega));rw[lR];exact⟨by rw[ZT];omega,Bs.app h2 h4⟩
theorem ow{fs:List Fd}{p:List Row}(h:jJ fs p)(hl:p.length<=256)(dT:∀ k,k<fs.length->Col (lO fs k) (cT p k)):∀{k:Nat},k<=fs.length->(ftK fs p k).length<=170*k/\Bs (ftK fs p k):=by
 intro k;induction k with
 | zero=>exact fun _=>⟨by simp[ftK],fun x hx=>by simp[ftK]at hx⟩
 | succ k ih =>
  intro hk;obtain⟨h1,h2⟩:=ih (by omega);obtain⟨h3,h4⟩:=il (dT k (by omega));obtain⟨a1,a2,a3⟩:=JM h hl k;obtain⟨b1,b2⟩:=ov a1 a2 a3;have hu:=bI (n:=(em (lO fs k) (cT p k)).length) (by omega);rw[nz];exact⟨by simp only[ZT];omega,Bs.app h2 (Bs.app gL b2)⟩
theorem iv{f:Nat->List Nat}{m:Nat}(h:∀ j,(f j).length<=m):∀ pre:List Nat,(pre.flatMap f).length<=m*pre.length
 | []=>by simp
 | j::t=>by
  have:=iv h t;have:=h j;rw[ja2,ZT,ZW,jaR];omega
theorem AV{f:Nat->List Nat}(h:∀ j,Bs (f j)):∀ pre:List Nat,Bs (pre.flatMap f)
 | []=>fun x hx=>by simp at hx
 | j::t=>by
  rw[ja2];exact Bs.app (h j) (AV h t)
theorem jW{g n:Nat}(hg:1<=g)(hn:n<=256):nps g n<=256:=by
 rcases jae 256 (nps g n)with h | h
 ·have:=(ku (j:=256) (show 0<g by omega)).1 h
  have:256*1<=256*g:=jaL _ hg;omega
 ·exact h
theorem DM(m:Nat)(hm:1<=m)(l Bs Bn cap:Nat)(a:Option Addr)(J:List Nat->World->Prop)(W:World)(hBs:W.cell? ⟨Bs,0,none⟩=some (.slice a 0 cap))(h0:J [] W) :
  CallsIn Fence.wide m Tryz.prog 121 #[.func (.yield l) #[] #[],.pointer (some ⟨Bs,0,none⟩),.pointer (some ⟨Bn,0,none⟩)] W fun e W'=>(∃ v,e=.returned v)/\J [] W':=by
 refine callsIn_of_wp Tryz.func121 rfl trivial ?_ rfl;simp only[Tryz.ntmps121,List.size_toArray,ZW,jad,Nat.reduceAdd,Nat.reduceSub,Array.replicate_succ,Array.replicate_zero,List.push_toArray,List.append_toArray,jaH,jaz];gi_wp2
 gi_loopw [4] (fun i wr=>i=.int .i64 0/\wr=W) (fun _ _=>0)
 case atStart=>exact⟨rfl,rfl⟩
 case round =>
  obtain⟨rfl,rfl⟩:=hrel;gi_wp2
  go_end0
  exact⟨⟨_,rfl⟩,h0⟩
theorem LE{w:World}{ra:Option Addr}{rcap:Nat}{rs:List Row}(hr:Rv w (.slice ra rs.length rcap) rs)(hl:rs.length<=256){g:Nat}(eQ:1<=g)(gK:g<=64)(m:Nat)(hm:1<=m) :
  ∃ PV:Nat->Value,(∀ W,Rv W (.slice ra rs.length rcap) rs->∀ j,Rv W (PV j) (prt g rs j))/\∀(p q:Nat) (Z:World),Z.cell? ⟨p,0,none⟩=some (.slice ra rs.length rcap)->Z.cell? ⟨q,0,none⟩=some (.int .i64 (g:Int))->p<Z.heap.size->q<Z.heap.size ->
   SeqStopsK Fence.wide m Tryz.prog 121 #[.pointer (some ⟨p,0,none⟩),.pointer (some ⟨q,0,none⟩)] (fun j=>#[PV j]) (KC p q) (fun ys=>ys=List.range (nps g rs.length)) (fun pre=>∃ k,pre=List.range k) (nps g rs.length) Z:=by
 obtain⟨a',cap',e,h1,h2,h3,h4⟩:=hr;simp only[Value.slice.injEq]at e;obtain⟨rfl,_,rfl⟩:=e;have bw:rcap<=9223372036854775807:=by unfold maxLen at h2;omega
 rcases jax rs.length with h0 | h0
 ·have V1:rs=[]:=jab h0
  subst V1;refine⟨fun _=>.slice none 0 0,fun W _ j=>?_,fun p q Z hp hq MH mS l J Jx W hW hJ hJx hY h00=>?_⟩
  ·have:prt g ([]:List Row) j=[]:=by simp[prt]
   rw[this];exact Rv.nil W
  ·have hn:nps g ([]:List Row).length=0:=QB g (by omega)
   rw[hn];refine(DM m hm l p q rcap ra J W ((hW.cell (p:=⟨p,0,none⟩) MH).trans hp) h00).mono ?_;rintro e W' ⟨he,hj⟩;exact⟨he,.inl ⟨[],rfl,hj⟩⟩
 ·obtain⟨b,off,rfl,h5,h6⟩:=h4 h0
  refine⟨zt b off rs.length g,fun W hW j=>hW.part hl j,fun p q Z hp hq MH mS l J Jx W hW hJ hJx hY h00=>?_⟩;refine(LA m hm l p q b off rs.length rcap g eQ gK hl h1 bw J Jx hY (fun pre U k hU=>hJ pre U _ none hU ⟨rfl,rfl,rfl,ZR _,fun _ _ _=>rfl⟩ (fun r e=>by cases e)) W ((hW.cell (p:=⟨p,0,none⟩) MH).trans hp) ((hW.cell (p:=⟨q,0,none⟩) mS).trans hq) h00).mono ?_;rintro e W' ⟨he,⟨ys,rfl,hj⟩ | ⟨pre,hk,hj⟩⟩
  ·exact⟨he,.inl ⟨_,rfl,hj⟩⟩
  ·exact⟨he,.inr ⟨_,hk,hj⟩⟩
end Go.Proofs.YtpljdjmpamjkhaaGreatDoor
