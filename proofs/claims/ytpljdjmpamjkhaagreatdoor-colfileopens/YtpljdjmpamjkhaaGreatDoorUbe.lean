import Derived.Test.YtpljdjmpamjkhaaGreatDoorUbd
set_option linter.unusedVariables false
set_option linter.unusedSimpArgs false
set_option maxRecDepth 100000
set_option maxHeartbeats 4000000
namespace Go.Proofs.YtpljdjmpamjkhaaGreatDoor
open Go.RowKit Go.Lib
theorem bG{W:World}{B:Nat}{e:TypeId}{size n:Nat}{v:Value}{xs:List Value}(h:W.ownsRow B e size v n xs):∃ a c,v=.slice a n c/\n<=c/\c<=9223372036854775807:=by
 rcases h with ⟨h0,⟨h1,h2⟩ | ⟨g,cap,cur,h1,h2,h3,h4,h5,_⟩⟩
 ·exact⟨none,0,by rw[h1,h2],by omega,by omega⟩
 ·exact⟨_,cap,h1,h4,by unfold maxLen at h5;omega⟩
theorem gZ{W:World}{B:Nat}{e:TypeId}{size n m c:Nat}{a:Option Addr}{xs:List Value}(h:W.ownsRow B e size (.slice a m c) n xs){i:Nat}{x:Value}(hx:xs[i]?=some x) :
  ∃ g,a=some ⟨g,0,none⟩/\B<=g/\g<W.heap.size/\W.cell? ⟨g,i,none⟩=some x:=by
 have aC:=(List.getElem?_eq_some_iff.1 hx).1;rcases h with ⟨h0,⟨h1,h2⟩ | ⟨g,cap',cur,h1,h2,h3,h4,h5,h6,h7⟩⟩
 ·subst h2
  simp at h0
  rw[h0]at aC;simp at aC
 ·simp only[Value.slice.injEq]at h1
  obtain⟨rfl,rfl,rfl⟩:=h1;refine⟨g,rfl,h2,(Array.getElem?_eq_some_iff.1 h3).1,?_⟩;simp only[World.cell?,h3];rw[← h7]at hx;have BZ:=(List.getElem?_eq_some_iff.1 hx).1;rw[jdo]at BZ;rw[List.getElem?_take_of_lt (by omega)]at hx;simpa using hx
def Ow(W:World)(B:Nat)(v:Value)(l:List (Value×Row)):Prop:=W.ownsRow B 79 1 v l.length (l.map Prod.fst)/\∀ x∈l,OwnV W B x.1 x.2
theorem Ow.nil(W:World)(B:Nat):Ow W B (.slice none 0 0) []:=⟨jd8 _ _ _ _,fun x hx=>by simp at hx⟩
theorem Ow.kept{W W':World}{B:Nat}{v:Value}{l:List (Value×Row)}(h:Ow W B v l)(hb:Below W.heap.size W W'):Ow W' B v l:=⟨bI h.1 hb,fun x hx=>(h.2 x hx).kept hb⟩
theorem Ow.low{W:World}{B B':Nat}{v:Value}{l:List (Value×Row)}(h:Ow W B v l)(hB:B'<=B):Ow W B' v l:=⟨zR h.1 hB,fun x hx=>(h.2 x hx).of_le hB⟩
theorem Ow.form{W:World}{B:Nat}{v:Value}{l:List (Value×Row)}(h:Ow W B v l):∃ a cap,v=.slice a l.length cap/\l.length<=cap/\cap<=maxLen/\(a=none->cap=0):=by
 rcases h.1 with ⟨h0,⟨h1,h2⟩ | ⟨g,cap,cur,h1,h2,h3,h4,h5,_⟩⟩
 ·exact⟨none,0,by rw[h1,h2],by omega,by unfold maxLen;omega,fun _=>rfl⟩
 ·exact⟨_,cap,h1,h4,h5,fun e=>by cases e⟩
theorem Ow.at{W:World}{B:Nat}{a:Option Addr}{n cap:Nat}{l:List (Value×Row)}(h:Ow W B (.slice a n cap) l){k:Nat}(hk:k<l.length) :
  ∃ g,a=some ⟨g,0,none⟩/\g<W.heap.size/\W.cell? ⟨g,k,none⟩=some l[k].1/\OwnV W B l[k].1 l[k].2:=by
 rcases h with ⟨⟨h0,⟨h1,h2⟩ | ⟨g,cap',cur,h1,h2,h3,h4,h5,h6,h7⟩⟩,hr⟩
 ·omega
 ·simp only[Value.slice.injEq]at h1
  obtain⟨rfl,rfl,rfl⟩:=h1;refine⟨g,rfl,(Array.getElem?_eq_some_iff.1 h3).1,?_,(hr _ (jdl hk))⟩;have hj:(l.map Prod.fst)[k]?=some l[k].1:=by simp[hk]
  simp only[World.cell?,h3];rw[← h7]at hj;have aC:=(List.getElem?_eq_some_iff.1 hj).1;rw[jdo]at aC;rw[List.getElem?_take_of_lt (by omega)]at hj;simpa using hj
theorem Ow.sv{W:World}{B:Nat}{v:Value}{l:List (Value×Row)}(h:Ow W B v l):Sv W v (l.map Prod.fst):=by
 have:=Sv.of_own h.1;exact this
theorem Ow.rv{W:World}{B:Nat}{v:Value}{l:List (Value×Row)}(h:Ow W B v l):Rv W v (l.map Prod.snd):=by
 obtain⟨a,cap,rfl,h1,h2,h3⟩:=h.form;refine⟨a,cap,by rw[jdk],by rw[jdk];exact h1,h2,h3,fun h0=>?_⟩;rw[jdk]at h0;obtain⟨g,e,h4,_⟩:=h.at h0;refine⟨g,0,e,h4,fun j hj=>?_⟩;rw[jdk]at hj;obtain⟨g',e',h5,h6,h7⟩:=h.at hj;obtain rfl:g=g':=by rw[e]at e';cases e';rfl
 refine⟨_,by rw[jdK];exact h6,?_⟩;have:=h7.sv;simpa using this
theorem BC{W:World}{g:Nat}{z:Value}(hc:W.cell? ⟨g,0,none⟩=some z)(hg:g<W.heap.size):Sv W (.slice (some ⟨g,0,none⟩) 1 1) [z] :=
 ⟨_,1,rfl,jdh _,by unfold maxLen;omega,fun e=>(by cases e),fun _=>⟨g,0,rfl,hg,fun j x hx=>by
  cases j with
  | zero =>
   simp only[List.getElem?_cons_zero,Option.some.injEq]at hx;rw[← hx];exact hc
  | succ j=>simp at hx⟩⟩
theorem BD{w:World}(ty:TypeId)(base:Nat)(v vx:Value)(l0 l:List (Value×Row))(aA:Ow w base v l0)(ft:Sv w vx (l.map Prod.fst))(hr:∀ x∈l,OwnV w base x.1 x.2)(hbytes:l0.length+l.length<=1000000)(aI:base<=w.heap.size) :
  ∃ v' w',(Builtin.append_ #[34,34] ty #[v,vx]).run Tryz.prog w=.ok v' w'/\Ow w' base v' (l0++l)/\Below base w w':=by
 obtain⟨i0,hi,cm,hz1',bn⟩:=jdA Lp;obtain⟨ad,cap,rfl,h1,h2,h3,h4⟩:=ft;rw[jdk]at *
 have one:∀ x∈l.map Prod.fst,x.oneCell'=true:=fun x hx=>by
  obtain⟨y,hy,rfl⟩:=jdE.1 hx;obtain⟨a,n,c,e⟩:=eP (hr y hy);rw[e];rfl
 cases ad with
 | none =>
  have hc:=h3 rfl;subst hc;have hl:l=[]:=jdF (by omega);subst hl;have hr:=jeJ (P:=Tryz.prog) (w:=w) base 34 ty 79 i0 1 Tryz.underlying34 hi v l0.length (l0.map Prod.fst) aA.1;refine⟨v,w,hr,by rw[jdB];exact aA,jdg _ _⟩
 | some ad =>
  obtain⟨v',w',FG,o1,g1,_,e1⟩:=run_append_own_at (P:=Tryz.prog) w base 34 ty 79 i0 (.slice none 0 0) 1 24 Tryz.underlying34 hi cm hz1' bn rfl (by decide) v l0.length (l0.map Prod.fst) aA.1 ad l.length cap (l.map Prod.fst) (by rw[jdk];omega)
   (fun j u hu=>by
    have hj:j<l.length:=by
     have:=(List.getElem?_eq_some_iff.1 hu).1;rwa[jdk]at this
    obtain⟨b,off,h5,_,h6⟩:=h4 (by omega);cases h5
    rw[pI];exact h6 j u hu) one (by unfold maxLen;omega) (by omega) aI
  have keep:∀ y:Value×Row,OwnV w base y.1 y.2->OwnV w' base y.1 y.2:=fun y hy =>
   bY hy fun k hk=>g1.block k (aM hy hk).2.1 (fun e=>fM hy aA.1 (by decide) hk e.symm)
  refine⟨v',w',FG,⟨?_,fun y hy=>?_⟩,(jdg base w).grown g1 aI (fun k hk=>(aA.1.lt k hk).1)⟩
  ·rw[jdj,jdC]
   exact o1
  ·rcases jdO.1 hy with hy | hy
   ·exact keep y (aA.2 y hy)
   ·exact keep y (hr y hy)
theorem ER{w:World}{o:Oper}{a:Act}{K:Act->World->Prop}{Q:Exit->Act->World->Prop}(s x:Operand)
  (ho:o.op=.call { callee:=.builtin .append,args:=#[s,x],argTypes:=#[34,34] })
  (base:Nat) (v vx:Value) (l0 l:List (Value×Row)) (hs:a.eval s=v) (aA:Ow w base v l0) (hx:a.eval x=vx) (ft:Sv w vx (l.map Prod.fst)) (hr:∀ x∈l,OwnV w base x.1 x.2) (hbytes:l0.length+l.length<=1000000) (aI:base<=w.heap.size)
  (h:∀ v' w',Ow w' base v' (l0++l)->Below base w w'->K (a.put o.dst v') w'):Oper.wp Tryz.prog o a w K Q:=by
 obtain⟨v',w',hr,h2,h3⟩:=BD o.type base v vx l0 l aA ft hr hbytes aI;unfold Oper.wp execOp;simp only[ho,resolve,invoke,builtin,Sem.run_bind,Sem.run_pure,Result.andThen_ok,jes,jdQ,jed,hs,hx,hr];exact h v' w' h2 h3
theorem jI{w:World}{ops:Array Oper}{rest:List Oper}{o:Oper}{a:Act}{Q:Exit->Act->World->Prop}(eg:o.guard=none)(s x:Operand)
  (ho:o.op=.call { callee:=.builtin .append,args:=#[s,x],argTypes:=#[34,34] })
  (base:Nat) (v vx:Value) (l0 l:List (Value×Row)) (hs:a.eval s=v) (aA:Ow w base v l0) (hx:a.eval x=vx) (ft:Sv w vx (l.map Prod.fst)) (hr:∀ x∈l,OwnV w base x.1 x.2) (hbytes:l0.length+l.length<=1000000) (aI:base<=w.heap.size)
  (h:∀ v' w',Ow w' base v' (l0++l)->Below base w w'->wpList Tryz.prog ops Q rest (a.put o.dst v') w') :
  wpList Tryz.prog ops Q (o::rest) a w :=
 wpList_plain eg fun K hK=>ER s x ho base v vx l0 l hs aA hx ft hr hbytes aI fun v' w' h1 h2=>hK _ _ (h v' w' h1 h2)
theorem Lq{fs:List Fd}{g tot:Nat}{s:S3}:∀ j:Nat,(fiJ fs g tot s j).2.1.length<=s.1.length
 | 0=>jdh _
 | j+1=>jdq (EP (jdh _)).2.2.1 (Lq j)
theorem JA{fs:List Fd}{g tot:Nat}{s:S3}{m j:Nat}(h:j<=m)(hf:(fiJ fs g tot s j).2.2.2=true):(fiJ fs g tot s m).2.2.2=true:=by
 cases e:(fiJ fs g tot s m).2.2.2 with
 | true=>rfl
 | false =>
  rw[qb h e]at hf;cases hf
theorem ES{fs:List Fd}{g tot:Nat}{s:S3}:∀ j:Nat,(fiJ fs g tot s j).1.length=j
 | 0=>rfl
 | j+1=>by
  show (_++[_]).length=_
  rw[jdj,ES j];rfl
def mI(W:World)(B fp id:Nat)(fv gv:Value)(xs:List Value)(gs:List Gr):Prop :=
 W.heap[fp]?=some (.cells #[.int .u32 (id:Int),fv,gv] 105 (0,0))/\B<=fp/\W.ownsRow B 109 2 gv gs.length xs /\
  ∀ j (h:j<gs.length),∃ a b,xs[2*j]?=some a/\xs[2*j+1]?=some b/\Gro W B (.agg #[a,b]) gs[j].1 gs[j].2
theorem mI.fil{W:World}{B fp id:Nat}{fv gv:Value}{xs:List Value}{gs:List Gr}(h:mI W B fp id fv gv xs gs):Fil W B fp id fv gs:=⟨gv,xs,h⟩
theorem mI.turn{W W':World}{B fp id:Nat}{fv gv:Value}{xs:List Value}{gs:List Gr}(h:mI W B fp id fv gv xs gs)(hb:∀ k,B<=k->k<W.heap.size->W'.heap[k]?=W.heap[k]?):mI W' B fp id fv gv xs gs:=by
 obtain⟨h1,h2,h3,h4⟩:=h;refine⟨(hb fp h2 (Array.getElem?_eq_some_iff.1 h1).1).trans h1,h2,bY h3 fun k hk=>?_,fun j hj=>?_⟩
 ·obtain⟨a,b,_⟩:=aM h3 hk
  exact hb k a b
 ·obtain⟨a,b,e1,e2,e3⟩:=h4 j hj
  exact⟨a,b,e1,e2,e3.turn fun k _ _ k1 k2 _ _ _=>hb k k1 k2⟩
theorem mI.kept{W W':World}{B fp id:Nat}{fv gv:Value}{xs:List Value}{gs:List Gr}(h:mI W B fp id fv gv xs gs)(hb:Below W.heap.size W W'):mI W' B fp id fv gv xs gs:=h.turn fun k _ hk=>hb.block k hk
theorem mI.frp{W W':World}{B fp id p:Nat}{fv gv:Value}{xs:List Value}{gs:List Gr}(h:mI W B fp id fv gv xs gs)(hf:Fr p W.heap.size W W')(hp:p<B):mI W' B fp id fv gv xs gs:=h.turn fun k hB hk=>hf.block k hk (by omega)
theorem mI.lt{W:World}{B fp id:Nat}{fv gv:Value}{xs:List Value}{gs:List Gr}(h:mI W B fp id fv gv xs gs):fp<W.heap.size:=(Array.getElem?_eq_some_iff.1 h.1).1
theorem mI.cell{W:World}{B fp id:Nat}{fv gv:Value}{xs:List Value}{gs:List Gr}(h:mI W B fp id fv gv xs gs):W.cell? ⟨fp,2,none⟩=some gv:=by
 rw[ay h.1];rfl
theorem Fil.low{W:World}{B B' fp id:Nat}{fv:Value}{gs:List Gr}(h:Fil W B fp id fv gs)(hB:B'<=B):Fil W B' fp id fv gs:=by
 obtain⟨gv,xs,h1,h2,h3,h4⟩:=h;refine⟨gv,xs,h1,jdq hB h2,⟨h3.1,h3.2.imp (fun x=>x) fun⟨g,cap,cur,hv,hb,r⟩=>⟨g,cap,cur,hv,jdq hB hb,r⟩⟩,fun j hj=>?_⟩;obtain⟨a,b,e1,e2,e3⟩:=h4 j hj;exact⟨a,b,e1,e2,e3.low hB⟩
theorem JB{w:World}{p:Nat}{c f:List Nat}(h:R3 w p c f false){fv:Value}{fs:List Fd}(hs:Sf w fv fs)(hw:∀ i,fv.ownBlock=some i->i<p)(hk:∀ x∈fs,1<=x.2.2.1/\x.2.2.1<=3)(id:Nat)(jT:fs.length<=8)(eQ:c.length<=100000000) :
  Calls Tryz.prog 97 #[.pointer (some ⟨p,0,none⟩),.agg #[.int .u32 (id:Int),fv]] w fun r w'=>∃ fp,r=.returned (.tuple #[.pointer (some ⟨fp,0,none⟩),.int .i64 (gd 1 64 (dE f):Int)])/\(∃ c' f',R3 w' p c' f' (gX fs c f).2.2.2)/\((gX fs c f).2.2.2=false->Fil w' w.heap.size fp id fv (gX fs c f).1)/\Fr p w.heap.size w w':=by
 have aC:=h.lt;have Ak:=ae (fun(U:World) (hU:R3 U p c f false)=>qh hU 0 256 (by omega) (by omega));have nt:=ae (fun(U:World) (fl:Bool) (hU:R3 U p c (dE f) fl)=>qh hU 1 64 (by omega) (by omega));have Cz:=rr 0 256 f;have hv2:=rr 1 64 (dE f);have Zg:=ae (fun h=>Lm (lo:=1) (hi:=64) (b:=dE f) h);have HE:jfb (gX fs c f=fiJ fs (gd 1 64 (dE f)) (gd 0 256 f) (c,dE (dE f),lZ 0 256 f || lZ 1 64 (dE f)) (nps (gd 1 64 (dE f)) (gd 0 256 f))):=ae rfl;rw[HE.o];clear HE;generalize gd 0 256 f=tot at *;generalize gd 1 64 (dE f)=g at *;obtain⟨bd1,hbd1⟩:∃ b,lZ 0 256 f=b:=⟨_,rfl⟩;obtain⟨bd2,hbd2⟩:∃ b,lZ 1 64 (dE f)=b:=⟨_,rfl⟩;simp only[hbd1,hbd2,Bool.false_or]at Ak nt Zg ⊢;clear hbd1 hbd2;have HJL:=ae (fun j=>Lq (fs:=fs) (g:=g) (tot:=tot) (s:=(c,dE (dE f),bd1 || bd2)) j);have Yd:=ae (fun j=>ES (fs:=fs) (g:=g) (tot:=tot) (s:=(c,dE (dE f),bd1 || bd2)) j);have HJS:=ae (fun m j (hj:j<=m)=>JA (fs:=fs) (g:=g) (tot:=tot) (s:=(c,dE (dE f),bd1 || bd2)) hj);have HJ0:jfb (fiJ fs g tot (c,dE (dE f),bd1 || bd2) 0=([],(c,dE (dE f),bd1 || bd2))):=ae rfl;have HJN:jfb (∀ j,fiJ fs g tot (c,dE (dE f),bd1 || bd2) (j+1)=((fiJ fs g tot (c,dE (dE f),bd1 || bd2) j).1++[((grK fs (min (tot-j*g) g) (fiJ fs g tot (c,dE (dE f),bd1 || bd2) j).2 fs.length).1,(grK fs (min (tot-j*g) g) (fiJ fs g tot (c,dE (dE f),bd1 || bd2) j).2 fs.length).2.1)],(grK fs (min (tot-j*g) g) (fiJ fs g tot (c,dE (dE f),bd1 || bd2) j).2 fs.length).2.2)):=ae (fun j=>rfl);obtain⟨J,hJ⟩:∃ J,fiJ fs g tot (c,dE (dE f),bd1 || bd2)=J:=⟨_,rfl⟩;rw[hJ]at HJL Yd HJS HJ0 HJN ⊢;clear hJ;have VQ:=ae (fun(hg:0<g) (j:Nat)=>kD (n:=tot) (j:=j) hg);generalize nps g tot=N at *;obtain⟨a,cap,rfl,aY,bx⟩:=hs.form;have aH:=ak w (.cells #[.int .u32 (id:Int),.slice a fs.length cap] 25);obtain⟨x0,x1⟩:=bF w (.int .u32 (id:Int)) (.slice a fs.length cap) 25;have aE:=ak (w.alloc (.cells #[.int .u32 (id:Int),.slice a fs.length cap] 25)) (.cells #[.int .u32 (id:Int),.slice a fs.length cap,.slice none 0 0] 105);have hA0:w.heap.size<(w.alloc (.cells #[.int .u32 (id:Int),.slice a fs.length cap] 25)).heap.size:=by rw[jdi];omega
 have sA:((w.alloc (.cells #[.int .u32 (id:Int),.slice a fs.length cap] 25)).alloc (.cells #[.int .u32 (id:Int),.slice a fs.length cap,.slice none 0 0] 105)).heap.size=w.heap.size+2:=by rw[jdi,jdi]
 have x2:((w.alloc (.cells #[.int .u32 (id:Int),.slice a fs.length cap] 25)).alloc (.cells #[.int .u32 (id:Int),.slice a fs.length cap,.slice none 0 0] 105)).heap[w.heap.size+1]?=some (.cells #[.int .u32 (id:Int),.slice a fs.length cap,.slice none 0 0] 105 (0,0)):=by
  have:=jdH (w.alloc (.cells #[.int .u32 (id:Int),.slice a fs.length cap] 25)) (.cells #[.int .u32 (id:Int),.slice a fs.length cap,.slice none 0 0] 105);rwa[jdi]at this
 have x3:=(aE.cell (p:=⟨w.heap.size,1,none⟩) hA0).trans x1;have x4:=(aE.cell (p:=⟨w.heap.size,0,none⟩) hA0).trans x0;have hAb:Below w.heap.size w ((w.alloc (.cells #[.int .u32 (id:Int),.slice a fs.length cap] 25)).alloc (.cells #[.int .u32 (id:Int),.slice a fs.length cap,.slice none 0 0] 105)):=ai aH aE;have HR:=ae (h.kept hAb aC);have HS:=ae (hs.keptW hw (hAb.mono (by omega)));have Zf:=ae hAb;have lA:=ae sA;have yA:=ae x2;have UB:=ae x3;have HX4:=ae x4;have FX:=ae aC;clear h hs aH aE hAb sA x2 hA0 x3 x4;go_enter Tryz.func97,Tryz.ntmps97
 go_upto_region 2 with fail
 generalize (w.alloc (.cells #[.int .u32 (id:Int),.slice a fs.length cap] 25)).alloc (.cells #[.int .u32 (id:Int),.slice a fs.length cap,.slice none 0 0] 105)=A at *;go_wp2_with fail;refine(Ak.o _ HR.o).mono ?_;rintro e w1 ⟨rfl,As,dv⟩;have sj:=ae As;have gg:=ae dv;clear As dv;go_wp2_with fail;refine(nt.o _ _ sj.o).mono ?_;rintro e w2 ⟨rfl,Cb,dO⟩;have jd:=ae Cb;have gD:=ae (gg.o.trans (dO.mono gg.o.size));clear Cb dO;go_wp2_with fail;have VS:=ae (gD.o.mono (show w.heap.size+1<=A.heap.size by have:=lA.o;omega));have HK:=ae hk
 have VT:jfb (mI w2 (w.heap.size+1) (w.heap.size+1) id (.slice a fs.length cap) (.slice none 0 0) [] []):=ae
  ⟨(gD.o.block (w.heap.size+1) (by have:=lA.o;omega) (by omega)).trans yA.o,jdh _,jd8 _ _ _ _,fun j hj=>by simp at hj⟩
 have tw:jfb (∀ j,(J j).2.2.2=false->1<=g):=ae (fun j hj=>by
  apply Zg.o
  cases bd2
  ·rfl
  ·have h0:(J 0).2.2.2=true:=by rw[HJ0.o];simp
   rw[HJS.o j 0 (jd1 _) h0]at hj;cases hj)
 clear hk;go_loopw [7] (fun i wr=>∃(j:Nat) (gv:Value) (xs:List Value),i=.int .i64 ((tot-j*g:Nat):Int)/\j<=N/\mI wr (w.heap.size+1) (w.heap.size+1) id (.slice a fs.length cap) gv xs (J j).1/\R3 wr p (J j).2.1 (J j).2.2.1 (J j).2.2.2/\Fr p (w.heap.size+1) A wr) (fun i _=>(intOf i).toNat)
 case atStart =>
  refine⟨0,.slice none 0 0,[],by simp,jd1 _,?_,?_,VS.o⟩
  ·rw[HJ0.o];exact VT.o
  ·rw[HJ0.o];exact jd.o
 case round =>
  obtain⟨j,gv,xs,rfl,hjN,hx,hr,hf⟩:=hrel;have HX:=ae hx;have HR:=ae hr;have HF:=ae hf;obtain⟨_,_,_,_,⟨_,_,r2⟩,⟨_,_,r3⟩,_,_⟩:=hr.cells;have Am:tot-j*g<=256:=by omega
  generalize hlf:tot-j*g=left at *;have HLF:=ae hlf;clear hlf;by_cases hp:0<left
  ·have hp':(left:Int) > 0:=by omega
   cases rU:(J j).2.2.2
   ·rw[rU]at r2
    have eS:1<=g:=tw.o j rU;obtain⟨m,hm⟩:∃ m,min left g=m:=⟨_,rfl⟩;have Qq:min (left:Int) (g:Int)=(m:Int):=(by omega);have Kv:1<=m/\m<=64:=(by omega);have hml:m<=left:=(by omega);have hJN:=HJN.o j;have hJl:=HJL.o j;have hJ1:=Yd.o j;have hLF:=HLF.o;rw[hLF,hm]at hJN;obtain⟨⟨gs0,c0,f0,fl0⟩,hJj⟩:∃ x,J j=x:=⟨_,rfl⟩;rw[hJj]at hJN hJl hJ1 hx hr rU;simp only at hJN hJl hJ1 hx hr rU;subst rU;obtain⟨KK,hKK⟩:∃ KK,grK fs m (c0,f0,false) fs.length=KK:=⟨_,rfl⟩;rw[hKK]at hJN;have HJS1:=ae hJN;have HX:=ae hx;have HR:=ae hr;have xX:∀ U,Below wr.heap.size wr U->Sf U (.slice a fs.length cap) fs:=fun U hU=>(HS.o.keptW hw (HF.o.below (jdh p) (by omega))).kept hU
    have hBA:w.heap.size+1<=A.heap.size:=by have:=lA.o;omega
    have hBr:w.heap.size+1<wr.heap.size:=hx.lt
    have HGC:jfb (∀ U:World,Below wr.heap.size wr U->Calls Tryz.prog 142 #[.pointer (some ⟨p,0,none⟩),.agg #[.int .u32 (id:Int),.slice a fs.length cap],.int .i64 (m:Int)] U fun e w'=>∃ z1 z2,e=.returned (.agg #[z1,z2])/\(z1.oneCell'=true/\z2.oneCell'=true)/\Gro w' (w.heap.size+1) (.agg #[z1,z2]) KK.1 KK.2.1 /\
      R3 w' p KK.2.2.1 KK.2.2.2.1 KK.2.2.2.2/\mI w' (w.heap.size+1) (w.heap.size+1) id (.slice a fs.length cap) gv xs gs0/\Fr p (w.heap.size+1) A w'/\w'.cell? ⟨w.heap.size+1,2,none⟩=some gv/\(∀ o,(w'.alloc o).cell? ⟨w.heap.size+1,2,none⟩=some gv)/\w.heap.size+1<=w'.heap.size):=ae (fun U hU=>by
     have hzU:=hU.size;refine(EQ (HR.o.kept hU HR.o.lt) (xX U hU) hw HK.o id m Kv jT (jdq hJl eQ)).mono ?_;rintro e w' ⟨⟨v,rfl,UZ⟩,hr',hf'⟩;rw[hKK]at UZ hr';obtain⟨z1,z2,rfl,cY,bn⟩:=UZ.parts;have hx':=(HX.o.kept hU).frp hf' (by omega);exact⟨z1,z2,rfl,⟨cY,bn⟩,UZ.low (by omega),hr',hx',(HF.o.then (hU.mono (by omega))).trans (hf'.mono (by omega)),hx'.cell,fun o=>((ak _ o).cell hx'.lt).trans hx'.cell,by have:=hx'.lt;omega⟩)
    have hgv:∃ ga gn gc,gv=.slice ga gn gc:=eP hx.2.2.1;obtain⟨ga,gn,gc,rfl⟩:=hgv;have kF:=hx.cell;have lz:wr.frozen? ⟨w.heap.size+1,2,none⟩=false:=by simp[World.frozen?,hx.1]
    have Kw:wr.cell? ⟨w.heap.size,0,none⟩=some (.int .u32 (id:Int)):=(World.cell?_of_block (a:=⟨w.heap.size,0,none⟩) (HF.o.block w.heap.size (by omega) (by omega))).trans HX4.o;have hc4:wr.cell? ⟨w.heap.size,1,none⟩=some (.slice a fs.length cap):=(World.cell?_of_block (a:=⟨w.heap.size,1,none⟩) (HF.o.block w.heap.size (by omega) (by omega))).trans UB.o
    have Ye:gs0.length<=100000:=by
     have h1:j<=j*g:=Nat.le_mul_of_pos_right j (by omega);omega
    have nh:jfb (tot-(j+1)*g=left-m/\j+1<=N):=ae (by
     rw[jdV];refine⟨by omega,?_⟩;exact(VQ.o (by omega) j).2 (by omega))
    clear hx hr hf hm hJN hJl hJ1 hLF hJj hKK xX HX HF HR;go_upto_region 6 with fail
    try rw[Qq]
    refine wp_region_noPanic ?_
    go_region_law (first
     | (refine yr (by rfl) _ _ (by rfl) (w.heap.size+1) _ _ z1 z2 gs0.length xs (by rfl) ?_ (by rfl) ?_ cY bn Ye ?_ ?_;exact bI Qk.o.2.2.1 (ak _ _);exact jdH _ _;(rw[jdi];omega);intro v6 w6 o6 g6 e6;have hx6:=Qk.o.kept (ak w5 (.cells #[z1,z2] 109));obtain⟨⟨gv7,xs7,Zy⟩,dP,hc6,hc7⟩:=Fil.add (g:=(KK.1,KK.2.1)) hx6.1 hx6.2.1 hx6.2.2.1 hx6.2.2.2 (PE.o.turn (fun k _ _ _ k2 _ _ _=>(ak w5 (.cells #[z1,z2] 109)).block k k2)) o6 g6 e6;obtain⟨va7,vn7,vc7,rfl⟩:=eP o6;have xN:jfb (mI _ (w.heap.size+1) (w.heap.size+1) id (.slice a fs.length cap) gv7 xs7 (gs0++[(KK.1,KK.2.1)])):=ae Zy;have Ga:=ae ((uR.o.kept (ak _ _) uR.o.lt).kept dP (by omega));have Gb:=ae ((xU.o.then ((ak _ _).mono vk)).trans (Fr.of_below dP));clear o6 g6 e6 Zy dP hx6)
     | (go_simp;go_at_call 142;refine(HGC.o _ ?_).mono ?_;exact ar (jdg wr.heap.size wr) _;rintro e w5 ⟨z1,z2,rfl,⟨cY,bn⟩,Zx,Qo,hx5,jz,hc5,ha5,vk⟩;have PE:=ae Zx;have uR:=ae Qo;have Qk:=ae hx5;have xU:=ae jz;clear Zx Qo hx5 jz;dsimp only)
     | fail)
    all_goals refine NoPanic.normal ?_
    all_goals
     go_wp2_with fail;go_roundw
     case rel =>
      refine⟨j+1,gv7,xs7,?_,nh.o.2,?_,?_,Gb.o⟩
      ·rw[nh.o.1]
       congr 1
       omega
      ·rw[HJS1.o];exact xN.o
      ·rw[HJS1.o];exact Ga.o
     case measure=>simp[intOf];omega
   ·rw[rU]at r2
    have HD:jfb ((J N).2.2.2=true):=ae (HJS.o N j hjN rU);have pG:=ae (show R3 wr p (J j).2.1 (J j).2.2.1 true from rU ▸ hr);have Qf:=ae ((Fr.of_below Zf.o).trans (hf.mono (Nat.le_succ _)));clear hx hr hf rU;go_wp2_with fail;go_ret2
    rw[HD.o];exact⟨w.heap.size+1,rfl,⟨_,_,pG.o⟩,(fun h=>by cases h),Qf.o⟩
  ·have hp':¬ (left:Int) > 0:=by omega
   have HD:jfb ((J N).2.2.2=(J j).2.2.2/\((J N).2.2.2=false->j=N)):=ae (by
    cases rU:(J j).2.2.2
    ·have eS:=tw.o j rU
     have e:j=N:=by
      have h1:=VQ.o (by omega) j;have h2:=HLF.o;rcases jdJ j N with h3 | h3
      ·have:=h1.1 h3
       omega
      ·omega
     subst e;exact⟨rU,fun _=>rfl⟩
    ·have e:=HJS.o N j hjN rU
     exact⟨e,fun h=>by rw[e]at h;cases h⟩)
   have Qf:=ae ((Fr.of_below Zf.o).trans (hf.mono (Nat.le_succ _)));have pG:=ae hr;have HXF:=ae (hx.fil.low (Nat.le_succ _));clear hx hr hf r2 r3;go_wp2_with fail;go_ret2
   refine⟨w.heap.size+1,rfl,⟨_,_,by rw[HD.o.1];exact pG.o⟩,fun h=>?_,Qf.o⟩;have e:=HD.o.2 h;subst e;exact HXF.o
def ET(fs:List Fd)(rs:List Row):Prop:=∀ r∈rs,r.length=fs.length/\∀ c∈r,aV c
theorem ti{fs:List Fd}{n:Nat}{cols:List (List Cl)}(hw:Whl fs n cols)(hc:cols.length=fs.length):ET fs (fK n cols):=by
 intro r hr;obtain⟨i,hi,rfl⟩:=jdE.1 hr;refine⟨by rw[jdk];exact hc,fun c bx=>?_⟩;obtain⟨l,hl,rfl⟩:=jdE.1 bx;obtain⟨k,hk,rfl⟩:=List.mem_iff_getElem.1 hl;obtain⟨h1,h2⟩:=hw k hk;have aC:i<cols[k].length:=by rw[h2];simpa using hi
 rw[List.getD_eq_getElem?_getD,List.getElem?_eq_getElem aC];exact(h1.2.2 _ (jdl aC)).fine
theorem NQ{fs:List Fd}{n:Nat}{s:S3}(hn:n<=64)(hk:∀ f∈fs,1<=f.2.2.1/\f.2.2.1<=3)(hb:Bs s.1)(h:(grK fs n s fs.length).2.2.2.2=false) :
  ∃ p,((grK fs n s fs.length).1,(grK fs n s fs.length).2.1)=grp fs p/\p.length=n/\ET fs p/\Bs (grK fs n s fs.length).2.2.1:=by
 obtain⟨cols,h1,h2,h3,h4,h5⟩:=Nl hn hk hb (jdh _) h;refine⟨fK n cols,?_,gy _ _,ti h2 h1,h5⟩;unfold grp;rw[h3,h4];congr 1
 apply List.ext_getElem?
 intro i;rw[List.getElem?_map,List.getElem?_map];by_cases hi:i<fs.length
 ·rw[List.getElem?_range hi,List.getElem?_eq_getElem (by omega)]
  simp only[jeq];rw[DY (by omega) (h2 i (by omega)).2]
 ·rw[List.getElem?_eq_none (by omega),List.getElem?_eq_none (by simp;omega)]
  rfl
theorem zT{fs:List Fd}{g tot:Nat}{s:S3}(hg:g<=64)(hk:∀ f∈fs,1<=f.2.2.1/\f.2.2.1<=3)(hb:Bs s.1):∀ j:Nat,(fiJ fs g tot s j).2.2.2=false ->
  ∃ L:List (List Row),(fiJ fs g tot s j).1=L.map (grp fs)/\L.length=j/\(∀ i (h:i<L.length),L[i].length=min (tot-i*g) g)/\(∀ p∈L,ET fs p)/\Bs (fiJ fs g tot s j).2.1
 | 0,h=>⟨[],rfl,rfl,fun i h=>by simp at h,fun p hp=>by simp at hp,hb⟩
 | j+1,h=>by
  have h0:(fiJ fs g tot s j).2.2.2=false:=qb (Nat.le_succ j) h;obtain⟨L,h1,h2,h3,h4,h5⟩:=zT hg hk hb j h0;obtain⟨p,e1,e2,e3,e4⟩:=NQ (n:=min (tot-j*g) g) (by omega) hk h5 h;refine⟨L++[p],?_,by simp[h2],?_,?_,e4⟩
  ·show (fiJ fs g tot s j).1++[_]=_
   rw[e1,h1,jdC];rfl
  ·intro i hi
   rcases jdJ i L.length with h6 | h6
   ·rw[je6 h6]
    exact h3 i h6
   ·obtain rfl:i=L.length:=by simp at hi;omega
    rw[List.getElem_append_right (jdh _)];simp only[jeH,jeV];rw[e2,h2]
  ·intro q hq
   rcases jdO.1 hq with hq | hq
   ·exact h4 q hq
   ·rw[jd5.1 hq]
    exact e3
theorem qi{g tot:Nat}{L:List (List Row)}(h:∀ i (h:i<L.length),L[i].length=min (tot-i*g) g):∀ j,j<=L.length->j*g<=tot->(L.take j).flatten.length=j*g
 | 0,_,_=>by simp
 | j+1,hj,hg=>by
  rw[jdx (by omega),jeW,jdj,qi h j (by omega) (by rw[jdV]at hg;omega)];simp only[jeB,List.flatten_nil,jdB];rw[h j (by omega),jdV];rw[jdV]at hg;omega
theorem TD{g tot:Nat}(hg:0<g){L:List (List Row)}(h:∀ i (h:i<L.length),L[i].length=min (tot-i*g) g)(hL:L.length=nps g tot){j:Nat}(hj:j<L.length):prt g L.flatten j=L[j]:=by
 have aC:j*g<tot:=(kD hg).1 (by omega)
 have e:L.flatten=(L.take j).flatten++(L[j]++(L.drop (j+1)).flatten):=by
  conv=>lhs;rw[← jeD j L,jeW,jdX hj,jeB]
 have hf:=qi h j (by omega) (by omega);unfold prt;rw[e,← hf,jdY];have hl:=h j hj;by_cases hc:(j+1)*g<tot
 ·have:L[j].length=g:=by rw[hl];rw[jdV]at hc;omega
  rw[← this,jec]
 ·have hn:¬ j+1<nps g tot:=fun h2=>hc ((kD hg).1 h2)
  have:L.drop (j+1)=[]:=jeX (by omega);rw[this,List.flatten_nil,jdB];exact jdZ (by omega)
theorem JC{g tot:Nat}(hg:0<g){L:List (List Row)}(h:∀ i (h:i<L.length),L[i].length=min (tot-i*g) g)(hL:L.length=nps g tot):L.flatten.length=tot:=by
 rcases jd4 L.length with h0 | h0
 ·have:L=[]:=jdF h0
  subst this;have:¬ 0<nps g tot:=by rw[← hL];simp
  rw[kD hg]at this;simp
  omega
 ·have hj:L.length-1<L.length:=by omega
  have aC:(L.length-1)*g<tot:=(kD hg).1 (by omega);have hf:=qi h (L.length-1) (by omega) (by omega);have hn:¬ L.length<nps g tot:=by omega
  rw[kD hg]at hn
  have e:L.flatten=(L.take (L.length-1)).flatten++(L[L.length-1]++(L.drop (L.length-1+1)).flatten):=by
   conv=>lhs;rw[← jeD (L.length-1) L,jeW,jdX hj,jeB]
  have hd:L.drop (L.length-1+1)=[]:=jeX (by omega);rw[e,jdj,hf,hd,List.flatten_nil,jdB,h _ hj]
  have:L.length*g=(L.length-1)*g+g:=by
   conv=>lhs;rw[show L.length=L.length-1+1 by omega,jdV,jem]
  omega
theorem es{α β : Type}{d:List Nat->Except Nat (α×List Nat)}{f:α->List Nat->Except Nat (β×List Nat)}{b r:List Nat}{y:β}(h:aB d f b=.ok (y,r)):∃ x s,d b=.ok (x,s)/\f x s=.ok (y,r):=by
 cases hd:d b with
 | error e=>rw[cC hd]at h;cases h
 | ok q =>
  obtain⟨x,s⟩:=q;rw[cX hd]at h;exact⟨x,s,rfl,h⟩
theorem xq{room n:Nat}{b r:List Nat}(h:ik room b=.ok (n,r)):n<=room:=by
 unfold ik at h;split at h
 ·cases h
 ·split at h
  ·cases h
  ·next h1 =>
   simp only[Except.ok.injEq,Prod.mk.injEq]at h;omega
theorem TE{b r:List Nat}{f:Fd}(h:ux b=.ok (f,r)):Okf f:=by
 unfold ux at h;obtain⟨i,s1,e1,h⟩:=es h;obtain⟨t,s2,e2,h⟩:=es h;obtain⟨k,s3,e3,h⟩:=es h;obtain⟨n,s4,e4,h⟩:=es h;simp only[Except.ok.injEq,Prod.mk.injEq]at h;obtain⟨rfl,_⟩:=h;have h1:=xq e1;have h3:=xq e3;exact⟨by show i<_;omega,by show k<_;omega⟩
theorem zU:∀{n:Nat} {b r:List Nat} {l:List Fd},kR n b=.ok (l,r)->∀ f∈l,Okf f
 | 0,b,r,l,h=>by
  simp only[kR,Except.ok.injEq,Prod.mk.injEq]at h;obtain⟨rfl,_⟩:=h;intro f hf;simp at hf
 | n+1,b,r,l,h=>by
  unfold kR at h;obtain⟨l1,s1,e1,h⟩:=es h;obtain⟨f1,s2,e2,h⟩:=es h;simp only[Except.ok.injEq,Prod.mk.injEq]at h;obtain⟨rfl,_⟩:=h;intro f hf;rcases jdO.1 hf with hf | hf
  ·exact zU e1 f hf
  ·rw[jd5.1 hf]
   exact TE e2
theorem ue{b r:List Nat}{id:Nat}{fs:List Fd}(h:da b=.ok ((id,fs),r)):chk id fs=0/\id<4294967296/\∀ f∈fs,Okf f:=by
 unfold da at h;obtain⟨q,s1,e1,h⟩:=es h;unfold CT at e1;obtain⟨i,s2,e2,e1⟩:=es e1;obtain⟨n,s3,e3,e1⟩:=es e1;obtain⟨l,s4,e4,e1⟩:=es e1;simp only[Except.ok.injEq,Prod.mk.injEq]at e1;obtain⟨rfl,rfl⟩:=e1;have h2:=xq e2;by_cases hc:chk i l=0
 ·rw[jdf hc]at h
  simp only[Except.ok.injEq,Prod.mk.injEq]at h;obtain⟨⟨rfl,rfl⟩,_⟩:=h;exact⟨hc,by omega,zU e4⟩
 ·rw[jde hc]at h
  cases h
theorem uf{b:List Nat}(hb:Bs b){id g:Nat}{fs:List Fd}{gs:List Gr}(h:iK b=some (id,fs,g,gs)) :
  chk id fs=0/\id<4294967296/\(∀ f∈fs,Okf f)/\1<=g/\g<=64/\(bQ gs).length<=256/\ET fs (bQ gs)/\gs=(List.range (nps g (bQ gs).length)).map fun i=>grp fs (prt g (bQ gs) i):=by
 unfold iK at h;split at h
 ·cases h
 ·split at h
  ·cases h
  ·split at h
   ·cases h
   ·next id' fs' r hu =>
    split at h
    ·cases h
    ·next hn =>
     simp only[Option.some.injEq,Prod.mk.injEq]at h;obtain⟨rfl,rfl,hg,rfl⟩:=h;obtain⟨hc,hi,ho⟩:=ue hu;have hk:=gY hc;have jT:=Bool.eq_false_iff.2 hn;have hs:=jT;unfold gX at hs;have iM:=qb (jd1 _) hs;simp only[fiJ,Bool.or_eq_false_iff]at iM;have eS:=Lm iM.2;have gM:=rr 1 64 (dE r);obtain⟨L,h1,h2,h3,h4,h5⟩:=zT gM hk (hb.take _) _ hs;have ht:=JC (by omega) h3 h2
     have cW:bQ (gX fs' (b.take (b.length-4-leN (b.drop (b.length-4)))) r).1=L.flatten:=by
      unfold gX bQ;rw[h1,jdT];congr 1
      exact List.map_id'' (fun _=>rfl) _
     rw[cW,← hg];have Kd:=rr 0 256 r;refine⟨hc,hi,ho,eS,gM,by omega,?_,?_⟩
     ·intro x hx
      obtain⟨p,hp,hxp⟩:=List.mem_flatten.1 hx;exact h4 p hp x hxp
     ·unfold gX
      rw[h1,ht];apply List.ext_getElem?
      intro i;rw[List.getElem?_map,List.getElem?_map];by_cases YS:i<L.length
      ·rw[List.getElem?_eq_getElem YS,List.getElem?_range (by omega)]
       simp only[jeq];rw[TD (by omega) h3 h2 YS]
      ·rw[List.getElem?_eq_none (by omega),List.getElem?_eq_none (by simp;omega)]
       rfl
def St(T:Nat)(W:World)(p:Nat)(b:List Nat)(f:Nat):Prop :=
 ∃ a cap,W.heap[p]?=some (.cells #[.slice a b.length cap,.int .i64 (f:Int)] T (0,0))/\b.length<=cap/\cap<=maxLen/\Bs b/\(a=none->cap=0) /\
  (0<b.length->∃ g off,a=some ⟨g,off,none⟩/\g<p/\∀ j (h:j<b.length),W.cell? ⟨g,off+j,none⟩=some (.int .u8 (b[j]:Int)))
theorem St.bs{T:Nat}{W:World}{p:Nat}{b:List Nat}{f:Nat}(h:St T W p b f):Bs b:=by obtain⟨_,_,_,_,_,h,_⟩:=h;exact h
theorem St.lt{T:Nat}{W:World}{p:Nat}{b:List Nat}{f:Nat}(h:St T W p b f):p<W.heap.size:=by obtain⟨_,_,h,_⟩:=h;exact(Array.getElem?_eq_some_iff.1 h).1
theorem St.kept{T:Nat}{W W':World}{p B:Nat}{b:List Nat}{f:Nat}(h:St T W p b f)(hb:Below B W W')(hp:p<B):St T W' p b f:=by
 obtain⟨a,cap,h1,h2,h3,h4,h5,h6⟩:=h;refine⟨a,cap,(hb.block p hp).trans h1,h2,h3,h4,h5,fun h0=>?_⟩;obtain⟨g,off,e,hg,hc⟩:=h6 h0;exact⟨g,off,e,hg,fun j hj=>(hb.cell (p:=⟨g,off+j,none⟩) (show g<B by omega)).trans (hc j hj)⟩
theorem St.cells{T:Nat}{W:World}{p:Nat}{b:List Nat}{f:Nat}(h:St T W p b f) :
  ∃ a cap,W.cell? ⟨p,0,none⟩=some (.slice a b.length cap)/\W.cell? ⟨p,1,none⟩=some (.int .i64 (f:Int))/\W.frozen? ⟨p,0,none⟩=false/\W.frozen? ⟨p,1,none⟩=false /\
   b.length<=cap/\cap<=9223372036854775807/\Sv W (.slice a b.length cap) (aF .u8 b)/\(a=none->cap=0) /\
   (∀ f':Nat,St T (W.setCell ⟨p,1,none⟩ (.int .i64 (f':Int))) p b f') /\
   (∀ A k,k<=b.length->(k=b.length->(A=none->cap-k=0))->(k<b.length->∃ g off,a=some ⟨g,off,none⟩/\A=some ⟨g,off+k,none⟩)->St T (W.setCell ⟨p,0,none⟩ (.slice A (b.length-k) (cap-k))) p (b.drop k) f):=by
 have aC:=h.lt;obtain⟨a,cap,h1,h2,h3,h4,h5,h6⟩:=h
 have ie:Sv W (.slice a b.length cap) (aF .u8 b):=by
  refine⟨a,cap,by rw[ap],by rw[ap];omega,h3,h5,fun h0=>?_⟩;rw[ap]at h0;obtain⟨g,off,e,hg,hc⟩:=h6 h0;refine⟨g,off,e,by omega,fun j x hj=>?_⟩
  have hj':j<b.length:=by
   have:=(List.getElem?_eq_some_iff.1 hj).1;rwa[ap]at this
  rw[bS hj']at hj;rw[hc j hj'];exact hj
 refine⟨a,cap,by rw[ay h1];rfl,by rw[ay h1];rfl,by simp[World.frozen?,h1],by simp[World.frozen?,h1],h2,by unfold maxLen at h3;omega,ie,h5,fun f'=>?_,fun A k hk hA0 hA1=>?_⟩
 ·refine⟨a,cap,by rw[cJ h1];rfl,h2,h3,h4,h5,fun h0=>?_⟩
  obtain⟨g,off,e,hg,hc⟩:=h6 h0;refine⟨g,off,e,hg,fun j hj=>?_⟩;rw[World.cell?_of_block (w:=W) (Below.heap_setCell _ _ _ _ (show g≠p by omega))];exact hc j hj
 ·have hl:(b.drop k).length=b.length-k:=jdN
  refine⟨A,cap-k,by rw[cJ h1,hl];rfl,by omega,by omega,h4.drop k,fun hA=>?_,fun h0=>?_⟩
  ·rcases jdJ k b.length with aC | gL
   ·obtain⟨g,off,_,e2⟩:=hA1 aC
    rw[hA]at e2;cases e2
   ·exact hA0 (by omega) hA
  ·have aC:k<b.length:=by omega
   obtain⟨g,off,e1,e2⟩:=hA1 aC;obtain⟨g',off',e,hg,hc⟩:=h6 (by omega);rw[e1]at e;simp only[Option.some.injEq,Addr.mk.injEq,and_true]at e;obtain⟨rfl,rfl⟩:=e;refine⟨g,off+k,e2,hg,fun j hj=>?_⟩;rw[World.cell?_of_block (w:=W) (Below.heap_setCell _ _ _ _ (show g≠p by omega)),jeo,hc (k+j) (by omega)];simp
theorem mJ{w:World}{p f:Nat}{b:List Nat}(h:St 200 w p b f)(e:Nat) :
  Calls Tryz.prog 140 #[.pointer (some ⟨p,0,none⟩),.int .i64 (e:Int)] w fun r w'=>r=.returned (.tuple #[])/\St 200 w' p b (orf f e)/\Fr p w.heap.size w w':=by
 have HS:=ae h;obtain⟨a,cap,h0,h1,h2,h3,h4,h5,h6,h7,h8,h9⟩:=h.cells;have H8:=ae (h8 e);have HF:=ae ((Fr.refl p w.heap.size w).set 1 (.int .i64 (e:Int)));clear h h6 h8 h9;by_cases hf:((f:Int)==0)=true
 ·have hf':f=0:=by simpa using hf
  have HO:jfb (orf f e=e):=by show _=_;unfold orf;rw[jdf hf']
  clear hf';go_enter Tryz.func140,Tryz.ntmps140
  go_wp2_with fail;go_end0
  rw[HO.o];exact⟨rfl,H8.o,HF.o⟩
 ·have hff:((f:Int)==0)=false:=by simpa using hf
  have HO:jfb (orf f e=f):=by show _=_;unfold orf;rw[jde (fun e=>hf (by simp[e]))]
  clear hf;go_enter Tryz.func140,Tryz.ntmps140
  go_wp2_with fail;go_end0
  rw[HO.o];exact⟨rfl,HS.o,Fr.refl _ _ _⟩
def JD(T:Nat){α : Type}(m:List Nat->Except Nat (α×List Nat))(val:α->Value)(ok:α->Prop)(p:Nat)(b:List Nat)(f:Nat)(w:World)(r:Ending)(w':World):Prop :=
 ∃(x:α) (b':List Nat) (f':Nat),r=.returned (val x)/\ok x/\St T w' p b' f'/\Rds m b f x b' f'/\Fr p w.heap.size w w'
theorem EU{room:Nat}{l:List Nat}{f:Nat}(hc:(gt l).2.2≠0):Rds (ik room) l f 0 l (orf f (gt l).2.2):=by
 have h:=AH (room:=room) (l:=l) (f:=f);rw[jdf (Or.inl hc),jdf (Or.inl hc),jdf hc]at h;exact h
theorem BE{room:Nat}{l:List Nat}{f:Nat}(hc:(gt l).2.2=0)(hn:room<(gt l).1):Rds (ik room) l f 0 l (orf f 40):=by
 have h:=AH (room:=room) (l:=l) (f:=f);rw[jdf (Or.inr hn),jdf (Or.inr hn),jde (show ¬ (gt l).2.2≠0 by omega),jdf hn]at h;exact h
theorem JE{room:Nat}{l:List Nat}{f:Nat}(hc:(gt l).2.2=0)(hn:¬ room<(gt l).1):Rds (ik room) l f (gt l).1 (l.drop (gt l).2.1) f:=by
 have h:=AH (room:=room) (l:=l) (f:=f);have h2:¬ ((gt l).2.2≠0∨room<(gt l).1):=by omega
 rw[jde h2,jde h2,jde (show ¬ (gt l).2.2≠0 by omega),jde hn,show (if f=0 then 0 else f)=f by split<;>omega]at h;exact h
theorem Xi{b:List Nat}(h:(gt b).2.2=0)(hb:Bs b):0<(gt b).2.1/\(gt b).2.1<=b.length:=by
 obtain⟨n,u,c,hg⟩:∃ n u c,gt b=(n,u,c):=⟨_,_,_,rfl⟩;rw[hg]at h ⊢;simp only at h;subst h;obtain⟨_,h2,h3⟩:=QG hb hg;have:=mt n;have h4:=jdm List.length h2;simp only[jdj,jdN]at h4;simp only;omega
theorem ja{w:World}{p f:Nat}{b:List Nat}(h:St 200 w p b f)(room:Nat)(hroom:room<18446744073709551616) :
  Calls Tryz.prog 178 #[.pointer (some ⟨p,0,none⟩),.int .u64 (room:Int)] w (JD 200 (ik room) (fun x=>.int .u64 ((x:Nat):Int)) (fun x=>x<=room) p b f w):=by
 have HS:=ae h;have HB:=ae h.bs;have sj:=ae (EU (room:=room) (l:=b) (f:=f));have jd:=ae (BE (room:=room) (l:=b) (f:=f));have sk:=ae (JE (room:=room) (l:=b) (f:=f));obtain⟨a,cap,h0,h1,h2,h3,h4,h5,h6,h7,h8,h9⟩:=h.cells;obtain⟨g1,g2,g3,g4⟩:=fS b;have HG:=ae (AJ HB.o h6);have HU:=ae (fun e=>Xi (b:=b) e HB.o);have Ah:=ae h6;have H9:=ae h9;clear h h6 h8 h9 g3;generalize gt b=x at *;obtain⟨n,u,c⟩:=x;simp only at *;unfold kL at HG;by_cases hc:c=0
 ·subst hc
  by_cases hn:room<n
  ·have hn':(n:Int) > (room:Int):=by omega
   have HR:=ae (jd.o rfl hn);clear sj jd sk;go_enter Tryz.func178,Tryz.ntmps178
   go_wp2_with fail;refine HG.o.mono ?_;rintro e w1 ⟨rfl,rfl⟩;go_wp2_with fail;refine(mJ HS.o 40).mono ?_;rintro e w2 ⟨rfl,ei,dO⟩;have gE:=ae ei;clear ei;go_wp2_with fail;go_ret
   exact⟨0,b,_,rfl,jd1 _,gE.o,HR.o,dO⟩
  ·have hn':¬ (n:Int) > (room:Int):=by omega
   have HR:=ae (sk.o rfl hn);clear sj jd sk;obtain⟨Yf,hu2⟩:=HU.o rfl;have fO:0<b.length:=(by omega)
   obtain⟨g,off,ha⟩:∃ g off,a=some ⟨g,off,none⟩:=by
    obtain⟨a',cap',e,_,_,_,hx⟩:=Ah.o;simp only[Value.slice.injEq]at e;obtain⟨b',off',e2,_⟩:=hx (by rw[ap];exact fO);exact⟨b',off',e.1.trans e2⟩
   subst ha;obtain⟨A,hA⟩:∃ A,(if cap=u then (some ⟨g,off,none⟩:Option Addr) else some ⟨g,off+u,none⟩)=A:=⟨_,rfl⟩
   have cT:=ae (H9.o A u hu2 (fun hk hA'=>by
    rw[hA']at hA;split at hA<;>cases hA) (fun hk=>⟨g,off,rfl,by rw[← hA,jde (by omega)]⟩))
   have np:=ae ((Fr.refl p w.heap.size w).set 0 (.slice A (b.length-u) (cap-u)));clear fO;go_enter Tryz.func178,Tryz.ntmps178
   go_wp2_with fail;refine HG.o.mono ?_;rintro e w1 ⟨rfl,rfl⟩;go_wp2_with fail;go_ret
   exact⟨n,b.drop u,f,rfl,by omega,cT.o,HR.o,np.o⟩
 ·have hnz:n=0:=by omega
  subst hnz;have hc':((c:Int) != 0)=true:=by simp[hc]
  have hn':¬ (0:Int) > (room:Int):=by omega
  have HR:=ae (sj.o hc);clear hc sj jd sk;go_enter Tryz.func178,Tryz.ntmps178
  go_wp2_with fail;refine HG.o.mono ?_;rintro e w1 ⟨rfl,rfl⟩;go_wp2_with fail;refine(mJ HS.o c).mono ?_;rintro e w2 ⟨rfl,ei,dO⟩;have gE:=ae ei;clear ei;go_wp2_with fail;go_ret
  exact⟨0,b,_,rfl,jd1 _,gE.o,HR.o,dO⟩
end Go.Proofs.YtpljdjmpamjkhaaGreatDoor
