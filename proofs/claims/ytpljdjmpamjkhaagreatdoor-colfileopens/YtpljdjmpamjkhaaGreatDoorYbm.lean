import Derived.Test.YtpljdjmpamjkhaaGreatDoorYbl
import Derived.Test.YtpljdjmpamjkhaaGreatDoorYbe
set_option linter.unusedVariables false
set_option linter.unusedSimpArgs false
set_option maxRecDepth 100000
set_option maxHeartbeats 4000000
namespace Go.Proofs.YtpljdjmpamjkhaaGreatDoor
open Go.RowKit Go.Lib
theorem bF{W:World}{B:Nat}{e:TypeId}{size n:Nat}{v:Value}{xs:List Value}(h:W.ownsRow B e size v n xs):∃ a c,v=.slice a n c/\n<=c/\c<=9223372036854775807:=by
 rcases h with ⟨h0,⟨h1,h2⟩ | ⟨g,cap,cur,h1,h2,h3,h4,h5,_⟩⟩
 ·exact⟨none,0,by rw[h1,h2],by omega,by omega⟩
 ·exact⟨_,cap,h1,h4,by unfold maxLen at h5;omega⟩
theorem gX{W:World}{B:Nat}{e:TypeId}{size n m c:Nat}{a:Option Addr}{xs:List Value}(h:W.ownsRow B e size (.slice a m c) n xs){i:Nat}{x:Value}(hx:xs[i]?=some x) :
  ∃ g,a=some ⟨g,0,none⟩/\B<=g/\g<W.heap.size/\W.cell? ⟨g,i,none⟩=some x:=by
 have aB:=(List.getElem?_eq_some_iff.1 hx).1;rcases h with ⟨h0,⟨h1,h2⟩ | ⟨g,cap',cur,h1,h2,h3,h4,h5,h6,h7⟩⟩
 ·subst h2
  simp at h0
  rw[h0]at aB;simp at aB
 ·simp only[Value.slice.injEq]at h1
  obtain⟨rfl,rfl,rfl⟩:=h1;refine⟨g,rfl,h2,(Array.getElem?_eq_some_iff.1 h3).1,?_⟩;simp only[World.cell?,h3];rw[← h7]at hx;have Bo:=(List.getElem?_eq_some_iff.1 hx).1;rw[ZX]at Bo;rw[List.getElem?_take_of_lt (by omega)]at hx;simpa using hx
def Ow(W:World)(B:Nat)(v:Value)(l:List (Value×Row)):Prop:=W.ownsRow B 79 1 v l.length (l.map Prod.fst)/\∀ x∈l,OwnV W B x.1 x.2
theorem Ow.nil(W:World)(B:Nat):Ow W B (.slice none 0 0) []:=⟨jaB _ _ _ _,fun x hx=>by simp at hx⟩
theorem Ow.kept{W W':World}{B:Nat}{v:Value}{l:List (Value×Row)}(h:Ow W B v l)(hb:Below W.heap.size W W'):Ow W' B v l:=⟨bH h.1 hb,fun x hx=>(h.2 x hx).kept hb⟩
theorem Ow.low{W:World}{B B':Nat}{v:Value}{l:List (Value×Row)}(h:Ow W B v l)(hB:B'<=B):Ow W B' v l:=⟨zv h.1 hB,fun x hx=>(h.2 x hx).of_le hB⟩
theorem Ow.form{W:World}{B:Nat}{v:Value}{l:List (Value×Row)}(h:Ow W B v l):∃ a cap,v=.slice a l.length cap/\l.length<=cap/\cap<=maxLen/\(a=none->cap=0):=by
 rcases h.1 with ⟨h0,⟨h1,h2⟩ | ⟨g,cap,cur,h1,h2,h3,h4,h5,_⟩⟩
 ·exact⟨none,0,by rw[h1,h2],by omega,by unfold maxLen;omega,fun _=>rfl⟩
 ·exact⟨_,cap,h1,h4,h5,fun e=>by cases e⟩
theorem Ow.at{W:World}{B:Nat}{a:Option Addr}{n cap:Nat}{l:List (Value×Row)}(h:Ow W B (.slice a n cap) l){k:Nat}(hk:k<l.length) :
  ∃ g,a=some ⟨g,0,none⟩/\g<W.heap.size/\W.cell? ⟨g,k,none⟩=some l[k].1/\OwnV W B l[k].1 l[k].2:=by
 rcases h with ⟨⟨h0,⟨h1,h2⟩ | ⟨g,cap',cur,h1,h2,h3,h4,h5,h6,h7⟩⟩,hr⟩
 ·omega
 ·simp only[Value.slice.injEq]at h1
  obtain⟨rfl,rfl,rfl⟩:=h1;refine⟨g,rfl,(Array.getElem?_eq_some_iff.1 h3).1,?_,(hr _ (ZV hk))⟩;have hj:(l.map Prod.fst)[k]?=some l[k].1:=by simp[hk]
  simp only[World.cell?,h3];rw[← h7]at hj;have aB:=(List.getElem?_eq_some_iff.1 hj).1;rw[ZX]at aB;rw[List.getElem?_take_of_lt (by omega)]at hj;simpa using hj
theorem Ow.sv{W:World}{B:Nat}{v:Value}{l:List (Value×Row)}(h:Ow W B v l):Sv W v (l.map Prod.fst):=by
 have:=Sv.of_own h.1;exact this
theorem Ow.rv{W:World}{B:Nat}{v:Value}{l:List (Value×Row)}(h:Ow W B v l):Rv W v (l.map Prod.snd):=by
 obtain⟨a,cap,rfl,h1,h2,h3⟩:=h.form;refine⟨a,cap,by rw[ZU],by rw[ZU];exact h1,h2,h3,fun h0=>?_⟩;rw[ZU]at h0;obtain⟨g,e,h4,_⟩:=h.at h0;refine⟨g,0,e,h4,fun j hj=>?_⟩;rw[ZU]at hj;obtain⟨g',e',h5,h6,h7⟩:=h.at hj;obtain rfl:g=g':=by rw[e]at e';cases e';rfl
 refine⟨_,by rw[jaf];exact h6,?_⟩;have:=h7.sv;simpa using this
theorem A1{W:World}{g:Nat}{z:Value}(hc:W.cell? ⟨g,0,none⟩=some z)(hg:g<W.heap.size):Sv W (.slice (some ⟨g,0,none⟩) 1 1) [z] :=
 ⟨_,1,rfl,ZR _,by unfold maxLen;omega,fun e=>(by cases e),fun _=>⟨g,0,rfl,hg,fun j x hx=>by
  cases j with
  | zero =>
   simp only[List.getElem?_cons_zero,Option.some.injEq]at hx;rw[← hx];exact hc
  | succ j=>simp at hx⟩⟩
theorem A3{w:World}(ty:TypeId)(base:Nat)(v vx:Value)(l0 l:List (Value×Row))(az:Ow w base v l0)(fo:Sv w vx (l.map Prod.fst))(hr:∀ x∈l,OwnV w base x.1 x.2)(hbytes:l0.length+l.length<=1000000)(aH:base<=w.heap.size) :
  ∃ v' w',(Builtin.append_ #[34,34] ty #[v,vx]).run Tryz.prog w=.ok v' w'/\Ow w' base v' (l0++l)/\Below base w w':=by
 obtain⟨i0,hi,ce,hz1',bm⟩:=info_parts JN;obtain⟨ad,cap,rfl,h1,h2,h3,h4⟩:=fo;rw[ZU]at *
 have one:∀ x∈l.map Prod.fst,x.oneCell'=true:=fun x hx=>by
  obtain⟨y,hy,rfl⟩:=jaa.1 hx;obtain⟨a,n,c,e⟩:=eN (hr y hy);rw[e];rfl
 cases ad with
 | none =>
  have hc:=h3 rfl;subst hc;have hl:l=[]:=jab (by omega);subst hl;have hr:=run_append_owned_none (P:=Tryz.prog) (w:=w) base 34 ty 79 i0 1 Tryz.underlying34 hi v l0.length (l0.map Prod.fst) az.1;refine⟨v,w,hr,by rw[Z7];exact az,ZQ _ _⟩
 | some ad =>
  obtain⟨v',w',EB,o1,g1,_,e1⟩:=run_append_own_at (P:=Tryz.prog) w base 34 ty 79 i0 (.slice none 0 0) 1 24 Tryz.underlying34 hi ce hz1' bm rfl (by decide) v l0.length (l0.map Prod.fst) az.1 ad l.length cap (l.map Prod.fst) (by rw[ZU];omega)
   (fun j u hu=>by
    have hj:j<l.length:=by
     have:=(List.getElem?_eq_some_iff.1 hu).1;rwa[ZU]at this
    obtain⟨b,off,h5,_,h6⟩:=h4 (by omega);cases h5
    rw[pp];exact h6 j u hu) one (by unfold maxLen;omega) (by omega) aH
  have keep:∀ y:Value×Row,OwnV w base y.1 y.2->OwnV w' base y.1 y.2:=fun y hy =>
   bX hy fun k hk=>g1.block k (aL hy hk).2.1 (fun e=>fK hy az.1 (by decide) hk e.symm)
  refine⟨v',w',EB,⟨?_,fun y hy=>?_⟩,(ZQ base w).grown g1 aH (fun k hk=>(az.1.lt k hk).1)⟩
  ·rw[ZT,Z8]
   exact o1
  ·rcases jaj.1 hy with hy | hy
   ·exact keep y (az.2 y hy)
   ·exact keep y (hr y hy)
theorem DW{w:World}{o:Oper}{a:Act}{K:Act->World->Prop}{Q:Exit->Act->World->Prop}(s x:Operand)
  (ho:o.op=.call { callee:=.builtin .append,args:=#[s,x],argTypes:=#[34,34] })
  (base:Nat) (v vx:Value) (l0 l:List (Value×Row)) (hs:a.eval s=v) (az:Ow w base v l0) (hx:a.eval x=vx) (fo:Sv w vx (l.map Prod.fst)) (hr:∀ x∈l,OwnV w base x.1 x.2) (hbytes:l0.length+l.length<=1000000) (aH:base<=w.heap.size)
  (h:∀ v' w',Ow w' base v' (l0++l)->Below base w w'->K (a.put o.dst v') w'):Oper.wp Tryz.prog o a w K Q:=by
 obtain⟨v',w',hr,h2,h3⟩:=A3 o.type base v vx l0 l az fo hr hbytes aH;unfold Oper.wp execOp;simp only[ho,resolve,invoke,builtin,Sem.run_bind,Sem.run_pure,Result.andThen_ok,jaU,jal,jaG,hs,hx,hr];exact h v' w' h2 h3
theorem jB{w:World}{ops:Array Oper}{rest:List Oper}{o:Oper}{a:Act}{Q:Exit->Act->World->Prop}(ee:o.guard=none)(s x:Operand)
  (ho:o.op=.call { callee:=.builtin .append,args:=#[s,x],argTypes:=#[34,34] })
  (base:Nat) (v vx:Value) (l0 l:List (Value×Row)) (hs:a.eval s=v) (az:Ow w base v l0) (hx:a.eval x=vx) (fo:Sv w vx (l.map Prod.fst)) (hr:∀ x∈l,OwnV w base x.1 x.2) (hbytes:l0.length+l.length<=1000000) (aH:base<=w.heap.size)
  (h:∀ v' w',Ow w' base v' (l0++l)->Below base w w'->wpList Tryz.prog ops Q rest (a.put o.dst v') w') :
  wpList Tryz.prog ops Q (o::rest) a w :=
 wpList_plain ee fun K hK=>DW s x ho base v vx l0 l hs az hx fo hr hbytes aH fun v' w' h1 h2=>hK _ _ (h v' w' h1 h2)
theorem JO{fs:List Fd}{g tot:Nat}{s:S3}:∀ j:Nat,(fiJ fs g tot s j).2.1.length<=s.1.length
 | 0=>ZR _
 | j+1=>ZZ (DU (ZR _)).2.2.1 (JO j)
theorem GH{fs:List Fd}{g tot:Nat}{s:S3}{m j:Nat}(h:j<=m)(hf:(fiJ fs g tot s j).2.2.2=true):(fiJ fs g tot s m).2.2.2=true:=by
 cases e:(fiJ fs g tot s m).2.2.2 with
 | true=>rfl
 | false =>
  rw[pN h e]at hf;cases hf
theorem DX{fs:List Fd}{g tot:Nat}{s:S3}:∀ j:Nat,(fiJ fs g tot s j).1.length=j
 | 0=>rfl
 | j+1=>by
  show (_++[_]).length=_
  rw[ZT,DX j];rfl
def mz(W:World)(B fp id:Nat)(fv gv:Value)(xs:List Value)(gs:List Gr):Prop :=
 W.heap[fp]?=some (.cells #[.int .u32 (id:Int),fv,gv] 105 (0,0))/\B<=fp/\W.ownsRow B 109 2 gv gs.length xs /\
  ∀ j (h:j<gs.length),∃ a b,xs[2*j]?=some a/\xs[2*j+1]?=some b/\Gro W B (.agg #[a,b]) gs[j].1 gs[j].2
theorem mz.fil{W:World}{B fp id:Nat}{fv gv:Value}{xs:List Value}{gs:List Gr}(h:mz W B fp id fv gv xs gs):Fil W B fp id fv gs:=⟨gv,xs,h⟩
theorem mz.turn{W W':World}{B fp id:Nat}{fv gv:Value}{xs:List Value}{gs:List Gr}(h:mz W B fp id fv gv xs gs)(hb:∀ k,B<=k->k<W.heap.size->W'.heap[k]?=W.heap[k]?):mz W' B fp id fv gv xs gs:=by
 obtain⟨h1,h2,h3,h4⟩:=h;refine⟨(hb fp h2 (Array.getElem?_eq_some_iff.1 h1).1).trans h1,h2,bX h3 fun k hk=>?_,fun j hj=>?_⟩
 ·obtain⟨a,b,_⟩:=aL h3 hk
  exact hb k a b
 ·obtain⟨a,b,e1,e2,e3⟩:=h4 j hj
  exact⟨a,b,e1,e2,e3.turn fun k _ _ k1 k2 _ _ _=>hb k k1 k2⟩
theorem mz.kept{W W':World}{B fp id:Nat}{fv gv:Value}{xs:List Value}{gs:List Gr}(h:mz W B fp id fv gv xs gs)(hb:Below W.heap.size W W'):mz W' B fp id fv gv xs gs:=h.turn fun k _ hk=>hb.block k hk
theorem mz.frp{W W':World}{B fp id p:Nat}{fv gv:Value}{xs:List Value}{gs:List Gr}(h:mz W B fp id fv gv xs gs)(hf:Fr p W.heap.size W W')(hp:p<B):mz W' B fp id fv gv xs gs:=h.turn fun k hB hk=>hf.block k hk (by omega)
theorem mz.lt{W:World}{B fp id:Nat}{fv gv:Value}{xs:List Value}{gs:List Gr}(h:mz W B fp id fv gv xs gs):fp<W.heap.size:=(Array.getElem?_eq_some_iff.1 h.1).1
theorem mz.cell{W:World}{B fp id:Nat}{fv gv:Value}{xs:List Value}{gs:List Gr}(h:mz W B fp id fv gv xs gs):W.cell? ⟨fp,2,none⟩=some gv:=by
 rw[ax h.1];rfl
theorem Fil.low{W:World}{B B' fp id:Nat}{fv:Value}{gs:List Gr}(h:Fil W B fp id fv gs)(hB:B'<=B):Fil W B' fp id fv gs:=by
 obtain⟨gv,xs,h1,h2,h3,h4⟩:=h;refine⟨gv,xs,h1,ZZ hB h2,⟨h3.1,h3.2.imp (fun x=>x) fun⟨g,cap,cur,hv,hb,r⟩=>⟨g,cap,cur,hv,ZZ hB hb,r⟩⟩,fun j hj=>?_⟩;obtain⟨a,b,e1,e2,e3⟩:=h4 j hj;exact⟨a,b,e1,e2,e3.low hB⟩
theorem GI{w:World}{p:Nat}{c f:List Nat}(h:R3 w p c f false){fv:Value}{fs:List Fd}(hs:Sf w fv fs)(hw:∀ i,fv.ownBlock=some i->i<p)(hk:∀ x∈fs,1<=x.2.2.1/\x.2.2.1<=3)(id:Nat)(jM:fs.length<=8)(eO:c.length<=100000000) :
  Calls Tryz.prog 97 #[.pointer (some ⟨p,0,none⟩),.agg #[.int .u32 (id:Int),fv]] w fun r w'=>∃ fp,r=.returned (.tuple #[.pointer (some ⟨fp,0,none⟩),.int .i64 (fY 1 64 (dC f):Int)])/\(∃ c' f',R3 w' p c' f' (gV fs c f).2.2.2)/\((gV fs c f).2.2.2=false->Fil w' w.heap.size fp id fv (gV fs c f).1)/\Fr p w.heap.size w w':=by
 have aB:=h.lt;have zO:=ae (fun(U:World) (hU:R3 U p c f false)=>pT hU 0 256 (by omega) (by omega));have na:=ae (fun(U:World) (fl:Bool) (hU:R3 U p c (dC f) fl)=>pT hU 1 64 (by omega) (by omega));have BT:=qP 0 256 f;have X6:=qP 1 64 (dC f);have VS:=ae (fun h=>JK (lo:=1) (hi:=64) (b:=dC f) h);have HE:Hid (gV fs c f=fiJ fs (fY 1 64 (dC f)) (fY 0 256 f) (c,dC (dC f),lS 0 256 f || lS 1 64 (dC f)) (nps (fY 1 64 (dC f)) (fY 0 256 f))):=ae rfl;rw[HE.out];clear HE;generalize fY 0 256 f=tot at *;generalize fY 1 64 (dC f)=g at *;obtain⟨bd1,hbd1⟩:∃ b,lS 0 256 f=b:=⟨_,rfl⟩;obtain⟨bd2,hbd2⟩:∃ b,lS 1 64 (dC f)=b:=⟨_,rfl⟩;simp only[hbd1,hbd2,Bool.false_or]at zO na VS ⊢;clear hbd1 hbd2;have HJL:=ae (fun j=>JO (fs:=fs) (g:=g) (tot:=tot) (s:=(c,dC (dC f),bd1 || bd2)) j);have UY:=ae (fun j=>DX (fs:=fs) (g:=g) (tot:=tot) (s:=(c,dC (dC f),bd1 || bd2)) j);have Yk:=ae (fun m j (hj:j<=m)=>GH (fs:=fs) (g:=g) (tot:=tot) (s:=(c,dC (dC f),bd1 || bd2)) hj);have Yy:Hid (fiJ fs g tot (c,dC (dC f),bd1 || bd2) 0=([],(c,dC (dC f),bd1 || bd2))):=ae rfl;have HJN:Hid (∀ j,fiJ fs g tot (c,dC (dC f),bd1 || bd2) (j+1)=((fiJ fs g tot (c,dC (dC f),bd1 || bd2) j).1++[((grK fs (min (tot-j*g) g) (fiJ fs g tot (c,dC (dC f),bd1 || bd2) j).2 fs.length).1,(grK fs (min (tot-j*g) g) (fiJ fs g tot (c,dC (dC f),bd1 || bd2) j).2 fs.length).2.1)],(grK fs (min (tot-j*g) g) (fiJ fs g tot (c,dC (dC f),bd1 || bd2) j).2 fs.length).2.2)):=ae (fun j=>rfl);obtain⟨J,hJ⟩:∃ J,fiJ fs g tot (c,dC (dC f),bd1 || bd2)=J:=⟨_,rfl⟩;rw[hJ]at HJL UY Yk Yy HJN ⊢;clear hJ;have S1:=ae (fun(hg:0<g) (j:Nat)=>ku (n:=tot) (j:=j) hg);generalize nps g tot=N at *;obtain⟨a,cap,rfl,aX,bw⟩:=hs.form;have aG:=ak w (.cells #[.int .u32 (id:Int),.slice a fs.length cap] 25);obtain⟨x0,x1⟩:=bE w (.int .u32 (id:Int)) (.slice a fs.length cap) 25;have aD:=ak (w.alloc (.cells #[.int .u32 (id:Int),.slice a fs.length cap] 25)) (.cells #[.int .u32 (id:Int),.slice a fs.length cap,.slice none 0 0] 105);have hA0:w.heap.size<(w.alloc (.cells #[.int .u32 (id:Int),.slice a fs.length cap] 25)).heap.size:=by rw[ZS];omega
 have sA:((w.alloc (.cells #[.int .u32 (id:Int),.slice a fs.length cap] 25)).alloc (.cells #[.int .u32 (id:Int),.slice a fs.length cap,.slice none 0 0] 105)).heap.size=w.heap.size+2:=by rw[ZS,ZS]
 have x2:((w.alloc (.cells #[.int .u32 (id:Int),.slice a fs.length cap] 25)).alloc (.cells #[.int .u32 (id:Int),.slice a fs.length cap,.slice none 0 0] 105)).heap[w.heap.size+1]?=some (.cells #[.int .u32 (id:Int),.slice a fs.length cap,.slice none 0 0] 105 (0,0)):=by
  have:=heap_alloc_new (w.alloc (.cells #[.int .u32 (id:Int),.slice a fs.length cap] 25)) (.cells #[.int .u32 (id:Int),.slice a fs.length cap,.slice none 0 0] 105);rwa[ZS]at this
 have x3:=(aD.cell (p:=⟨w.heap.size,1,none⟩) hA0).trans x1;have x4:=(aD.cell (p:=⟨w.heap.size,0,none⟩) hA0).trans x0;have hAb:Below w.heap.size w ((w.alloc (.cells #[.int .u32 (id:Int),.slice a fs.length cap] 25)).alloc (.cells #[.int .u32 (id:Int),.slice a fs.length cap,.slice none 0 0] 105)):=ai aG aD;have HR:=ae (h.kept hAb aB);have HS:=ae (hs.keptW hw (hAb.mono (by omega)));have VR:=ae hAb;have lr:=ae sA;have yd:=ae x2;have RA:=ae x3;have HX4:=ae x4;have EQ:=ae aB;clear h hs aG aD hAb sA x2 hA0 x3 x4;go_enter Tryz.func97,Tryz.ntmps97
 go_upto_region 2 with fail
 generalize (w.alloc (.cells #[.int .u32 (id:Int),.slice a fs.length cap] 25)).alloc (.cells #[.int .u32 (id:Int),.slice a fs.length cap,.slice none 0 0] 105)=A at *;go_wp2_with fail;refine(zO.out _ HR.out).mono ?_;rintro e w1 ⟨rfl,zV,dt⟩;have rL:=ae zV;have gd:=ae dt;clear zV dt;go_wp2_with fail;refine(na.out _ _ rL.out).mono ?_;rintro e w2 ⟨rfl,Bq,dM⟩;have i6:=ae Bq;have gB:=ae (gd.out.trans (dM.mono gd.out.size));clear Bq dM;go_wp2_with fail;have S4:=ae (gB.out.mono (show w.heap.size+1<=A.heap.size by have:=lr.out;omega));have HK:=ae hk
 have S5:Hid (mz w2 (w.heap.size+1) (w.heap.size+1) id (.slice a fs.length cap) (.slice none 0 0) [] []):=ae
  ⟨(gB.out.block (w.heap.size+1) (by have:=lr.out;omega) (by omega)).trans yd.out,ZR _,jaB _ _ _ _,fun j hj=>by simp at hj⟩
 have sX:Hid (∀ j,(J j).2.2.2=false->1<=g):=ae (fun j hj=>by
  apply VS.out
  cases bd2
  ·rfl
  ·have h0:(J 0).2.2.2=true:=by rw[Yy.out];simp
   rw[Yk.out j 0 (jav _) h0]at hj;cases hj)
 clear hk;go_loopw [7] (fun i wr=>∃(j:Nat) (gv:Value) (xs:List Value),i=.int .i64 ((tot-j*g:Nat):Int)/\j<=N/\mz wr (w.heap.size+1) (w.heap.size+1) id (.slice a fs.length cap) gv xs (J j).1/\R3 wr p (J j).2.1 (J j).2.2.1 (J j).2.2.2/\Fr p (w.heap.size+1) A wr) (fun i _=>(intOf i).toNat)
 case atStart =>
  refine⟨0,.slice none 0 0,[],by simp,jav _,?_,?_,S4.out⟩
  ·rw[Yy.out];exact S5.out
  ·rw[Yy.out];exact i6.out
 case round =>
  obtain⟨j,gv,xs,rfl,hjN,hx,hr,hf⟩:=hrel;have HX:=ae hx;have HR:=ae hr;have HF:=ae hf;obtain⟨_,_,_,_,⟨_,_,r2⟩,⟨_,_,r3⟩,_,_⟩:=hr.cells;have zQ:tot-j*g<=256:=by omega
  generalize hlf:tot-j*g=left at *;have Yz:=ae hlf;clear hlf;by_cases hp:0<left
  ·have hp':(left:Int) > 0:=by omega
   cases rC:(J j).2.2.2
   ·rw[rC]at r2
    have eQ:1<=g:=sX.out j rC;obtain⟨m,hm⟩:∃ m,min left g=m:=⟨_,rfl⟩;have M8:min (left:Int) (g:Int)=(m:Int):=by omega
    have Hv:1<=m/\m<=64:=by omega
    have hml:m<=left:=by omega
    have hJN:=HJN.out j;have hJl:=HJL.out j;have hJ1:=UY.out j;have hLF:=Yz.out;rw[hLF,hm]at hJN;obtain⟨⟨gs0,c0,f0,fl0⟩,hJj⟩:∃ x,J j=x:=⟨_,rfl⟩;rw[hJj]at hJN hJl hJ1 hx hr rC;simp only at hJN hJl hJ1 hx hr rC;subst rC;obtain⟨KK,hKK⟩:∃ KK,grK fs m (c0,f0,false) fs.length=KK:=⟨_,rfl⟩;rw[hKK]at hJN;have HJS1:=ae hJN;have HX:=ae hx;have HR:=ae hr;have xB:∀ U,Below wr.heap.size wr U->Sf U (.slice a fs.length cap) fs:=fun U hU=>(HS.out.keptW hw (HF.out.below (ZR p) (by omega))).kept hU
    have hBA:w.heap.size+1<=A.heap.size:=by have:=lr.out;omega
    have hBr:w.heap.size+1<wr.heap.size:=hx.lt
    have HGC:Hid (∀ U:World,Below wr.heap.size wr U->Calls Tryz.prog 142 #[.pointer (some ⟨p,0,none⟩),.agg #[.int .u32 (id:Int),.slice a fs.length cap],.int .i64 (m:Int)] U fun e w'=>∃ z1 z2,e=.returned (.agg #[z1,z2])/\(z1.oneCell'=true/\z2.oneCell'=true)/\Gro w' (w.heap.size+1) (.agg #[z1,z2]) KK.1 KK.2.1 /\
      R3 w' p KK.2.2.1 KK.2.2.2.1 KK.2.2.2.2/\mz w' (w.heap.size+1) (w.heap.size+1) id (.slice a fs.length cap) gv xs gs0/\Fr p (w.heap.size+1) A w'/\w'.cell? ⟨w.heap.size+1,2,none⟩=some gv/\(∀ o,(w'.alloc o).cell? ⟨w.heap.size+1,2,none⟩=some gv)/\w.heap.size+1<=w'.heap.size):=ae (fun U hU=>by
     have hzU:=hU.size;refine(DV (HR.out.kept hU HR.out.lt) (xB U hU) hw HK.out id m Hv jM (ZZ hJl eO)).mono ?_;rintro e w' ⟨⟨v,rfl,R7⟩,hr',hf'⟩;rw[hKK]at R7 hr';obtain⟨z1,z2,rfl,cW,bm⟩:=R7.parts;have hx':=(HX.out.kept hU).frp hf' (by omega);exact⟨z1,z2,rfl,⟨cW,bm⟩,R7.low (by omega),hr',hx',(HF.out.then (hU.mono (by omega))).trans (hf'.mono (by omega)),hx'.cell,fun o=>((ak _ o).cell hx'.lt).trans hx'.cell,by have:=hx'.lt;omega⟩)
    have hgv:∃ ga gn gc,gv=.slice ga gn gc:=eN hx.2.2.1;obtain⟨ga,gn,gc,rfl⟩:=hgv;have kx:=hx.cell;have lq:wr.frozen? ⟨w.heap.size+1,2,none⟩=false:=by simp[World.frozen?,hx.1]
    have Hw:wr.cell? ⟨w.heap.size,0,none⟩=some (.int .u32 (id:Int)):=(World.cell?_of_block (a:=⟨w.heap.size,0,none⟩) (HF.out.block w.heap.size (by omega) (by omega))).trans HX4.out;have Zu:wr.cell? ⟨w.heap.size,1,none⟩=some (.slice a fs.length cap):=(World.cell?_of_block (a:=⟨w.heap.size,1,none⟩) (HF.out.block w.heap.size (by omega) (by omega))).trans RA.out
    have UZ:gs0.length<=100000:=by
     have h1:j<=j*g:=Nat.le_mul_of_pos_right j (by omega);omega
    have mV:Hid (tot-(j+1)*g=left-m/\j+1<=N):=ae (by
     rw[jap];refine⟨by omega,?_⟩;exact(S1.out (by omega) j).2 (by omega))
    clear hx hr hf hm hJN hJl hJ1 hLF hJj hKK xB HX HF HR;go_upto_region 6 with fail
    try rw[M8]
    refine wp_region_noPanic ?_
    go_region_law (first
     | (refine xV (by rfl) _ _ (by rfl) (w.heap.size+1) _ _ z1 z2 gs0.length xs (by rfl) ?_ (by rfl) ?_ cW bm UZ ?_ ?_;exact bH MZ.out.2.2.1 (ak _ _);exact heap_alloc_new _ _;(rw[ZS];omega);intro v6 w6 o6 g6 e6;have hx6:=MZ.out.kept (ak w5 (.cells #[z1,z2] 109));obtain⟨⟨gv7,xs7,Wb⟩,dN,hc6,hc7⟩:=Fil.add (g:=(KK.1,KK.2.1)) hx6.1 hx6.2.1 hx6.2.2.1 hx6.2.2.2 (My.out.turn (fun k _ _ _ k2 _ _ _=>(ak w5 (.cells #[z1,z2] 109)).block k k2)) o6 g6 e6;obtain⟨va7,vn7,vc7,rfl⟩:=eN o6;have xq:Hid (mz _ (w.heap.size+1) (w.heap.size+1) id (.slice a fs.length cap) gv7 xs7 (gs0++[(KK.1,KK.2.1)])):=ae Wb;have ET:=ae ((uw.out.kept (ak _ _) uw.out.lt).kept dN (by omega));have EU:=ae ((xy.out.then ((ak _ _).mono uG)).trans (Fr.of_below dN));clear o6 g6 e6 Wb dN hx6)
     | (go_simp;go_at_call 142;refine(HGC.out _ ?_).mono ?_;exact below_drewN (ZQ wr.heap.size wr) _;rintro e w5 ⟨z1,z2,rfl,⟨cW,bm⟩,Wa,M6,hx5,js,Yo,ha5,uG⟩;have My:=ae Wa;have uw:=ae M6;have MZ:=ae hx5;have xy:=ae js;clear Wa M6 hx5 js;dsimp only)
     | fail)
    all_goals refine NoPanic.normal ?_
    all_goals
     go_wp2_with fail;go_roundw
     case rel =>
      refine⟨j+1,gv7,xs7,?_,mV.out.2,?_,?_,EU.out⟩
      ·rw[mV.out.1]
       congr 1
       omega
      ·rw[HJS1.out];exact xq.out
      ·rw[HJS1.out];exact ET.out
     case measure=>simp[intOf];omega
   ·rw[rC]at r2
    have HD:Hid ((J N).2.2.2=true):=ae (Yk.out N j hjN rC);have pn:=ae (show R3 wr p (J j).2.1 (J j).2.2.1 true from rC ▸ hr);have MU:=ae ((Fr.of_below VR.out).trans (hf.mono (Nat.le_succ _)));clear hx hr hf rC;go_wp2_with fail;go_ret2
    rw[HD.out];exact⟨w.heap.size+1,rfl,⟨_,_,pn.out⟩,(fun h=>by cases h),MU.out⟩
  ·have hp':¬ (left:Int) > 0:=by omega
   have HD:Hid ((J N).2.2.2=(J j).2.2.2/\((J N).2.2.2=false->j=N)):=ae (by
    cases rC:(J j).2.2.2
    ·have eQ:=sX.out j rC
     have e:j=N:=by
      have h1:=S1.out (by omega) j;have h2:=Yz.out;rcases jae j N with h3 | h3
      ·have:=h1.1 h3
       omega
      ·omega
     subst e;exact⟨rC,fun _=>rfl⟩
    ·have e:=Yk.out N j hjN rC
     exact⟨e,fun h=>by rw[e]at h;cases h⟩)
   have MU:=ae ((Fr.of_below VR.out).trans (hf.mono (Nat.le_succ _)));have pn:=ae hr;have HXF:=ae (hx.fil.low (Nat.le_succ _));clear hx hr hf r2 r3;go_wp2_with fail;go_ret2
   refine⟨w.heap.size+1,rfl,⟨_,_,by rw[HD.out.1];exact pn.out⟩,fun h=>?_,MU.out⟩;have e:=HD.out.2 h;subst e;exact HXF.out
def DY(fs:List Fd)(rs:List Row):Prop:=∀ r∈rs,r.length=fs.length/\∀ c∈r,aU c
theorem sN{fs:List Fd}{n:Nat}{cols:List (List Cl)}(hw:Whl fs n cols)(hc:cols.length=fs.length):DY fs (fI n cols):=by
 intro r hr;obtain⟨i,hi,rfl⟩:=jaa.1 hr;refine⟨by rw[ZU];exact hc,fun c bw=>?_⟩;obtain⟨l,hl,rfl⟩:=jaa.1 bw;obtain⟨k,hk,rfl⟩:=List.mem_iff_getElem.1 hl;obtain⟨h1,h2⟩:=hw k hk;have aB:i<cols[k].length:=by rw[h2];simpa using hi
 rw[List.getD_eq_getElem?_getD,List.getElem?_eq_getElem aB];exact(h1.2.2 _ (ZV aB)).fine
theorem LQ{fs:List Fd}{n:Nat}{s:S3}(hn:n<=64)(hk:∀ f∈fs,1<=f.2.2.1/\f.2.2.1<=3)(hb:Bs s.1)(h:(grK fs n s fs.length).2.2.2.2=false) :
  ∃ p,((grK fs n s fs.length).1,(grK fs n s fs.length).2.1)=grp fs p/\p.length=n/\DY fs p/\Bs (grK fs n s fs.length).2.2.1:=by
 obtain⟨cols,h1,h2,h3,h4,h5⟩:=Ll hn hk hb (ZR _) h;refine⟨fI n cols,?_,gr _ _,sN h2 h1,h5⟩;unfold grp;rw[h3,h4];congr 1
 apply List.ext_getElem?
 intro i;rw[List.getElem?_map,List.getElem?_map];by_cases hi:i<fs.length
 ·rw[List.getElem?_range hi,List.getElem?_eq_getElem (by omega)]
  simp only[jaS];rw[Dh (by omega) (h2 i (by omega)).2]
 ·rw[List.getElem?_eq_none (by omega),List.getElem?_eq_none (by simp;omega)]
  rfl
theorem zx{fs:List Fd}{g tot:Nat}{s:S3}(hg:g<=64)(hk:∀ f∈fs,1<=f.2.2.1/\f.2.2.1<=3)(hb:Bs s.1):∀ j:Nat,(fiJ fs g tot s j).2.2.2=false ->
  ∃ L:List (List Row),(fiJ fs g tot s j).1=L.map (grp fs)/\L.length=j/\(∀ i (h:i<L.length),L[i].length=min (tot-i*g) g)/\(∀ p∈L,DY fs p)/\Bs (fiJ fs g tot s j).2.1
 | 0,h=>⟨[],rfl,rfl,fun i h=>by simp at h,fun p hp=>by simp at hp,hb⟩
 | j+1,h=>by
  have h0:(fiJ fs g tot s j).2.2.2=false:=pN (Nat.le_succ j) h;obtain⟨L,h1,h2,h3,h4,h5⟩:=zx hg hk hb j h0;obtain⟨p,e1,e2,e3,e4⟩:=LQ (n:=min (tot-j*g) g) (by omega) hk h5 h;refine⟨L++[p],?_,by simp[h2],?_,?_,e4⟩
  ·show (fiJ fs g tot s j).1++[_]=_
   rw[e1,h1,Z8];rfl
  ·intro i hi
   rcases jae i L.length with h6 | h6
   ·rw[jbu h6]
    exact h3 i h6
   ·obtain rfl:i=L.length:=by simp at hi;omega
    rw[List.getElem_append_right (ZR _)];simp only[ja9,jbj];rw[e2,h2]
  ·intro q hq
   rcases jaj.1 hq with hq | hq
   ·exact h4 q hq
   ·rw[jay.1 hq]
    exact e3
theorem pU{g tot:Nat}{L:List (List Row)}(h:∀ i (h:i<L.length),L[i].length=min (tot-i*g) g):∀ j,j<=L.length->j*g<=tot->(L.take j).flatten.length=j*g
 | 0,_,_=>by simp
 | j+1,hj,hg=>by
  rw[Z5 (by omega),jbk,ZT,pU h j (by omega) (by rw[jap]at hg;omega)];simp only[ja3,List.flatten_nil,Z7];rw[h j (by omega),jap];rw[jap]at hg;omega
theorem QL{g tot:Nat}(hg:0<g){L:List (List Row)}(h:∀ i (h:i<L.length),L[i].length=min (tot-i*g) g)(hL:L.length=nps g tot){j:Nat}(hj:j<L.length):prt g L.flatten j=L[j]:=by
 have aB:j*g<tot:=(ku hg).1 (by omega)
 have e:L.flatten=(L.take j).flatten++(L[j]++(L.drop (j+1)).flatten):=by
  conv=>lhs;rw[← ja5 j L,jbk,jar hj,ja3]
 have hf:=pU h j (by omega) (by omega);unfold prt;rw[e,← hf,jas];have hl:=h j hj;by_cases hc:(j+1)*g<tot
 ·have:L[j].length=g:=by rw[hl];rw[jap]at hc;omega
  rw[← this,jaF]
 ·have hn:¬ j+1<nps g tot:=fun h2=>hc ((ku hg).1 h2)
  have:L.drop (j+1)=[]:=jbl (by omega);rw[this,List.flatten_nil,Z7];exact jat (by omega)
theorem GJ{g tot:Nat}(hg:0<g){L:List (List Row)}(h:∀ i (h:i<L.length),L[i].length=min (tot-i*g) g)(hL:L.length=nps g tot):L.flatten.length=tot:=by
 rcases jax L.length with h0 | h0
 ·have:L=[]:=jab h0
  subst this;have:¬ 0<nps g tot:=by rw[← hL];simp
  rw[ku hg]at this;simp
  omega
 ·have hj:L.length-1<L.length:=by omega
  have aB:(L.length-1)*g<tot:=(ku hg).1 (by omega);have hf:=pU h (L.length-1) (by omega) (by omega);have hn:¬ L.length<nps g tot:=by omega
  rw[ku hg]at hn
  have e:L.flatten=(L.take (L.length-1)).flatten++(L[L.length-1]++(L.drop (L.length-1+1)).flatten):=by
   conv=>lhs;rw[← ja5 (L.length-1) L,jbk,jar hj,ja3]
  have hd:L.drop (L.length-1+1)=[]:=jbl (by omega);rw[e,ZT,hf,hd,List.flatten_nil,Z7,h _ hj]
  have:L.length*g=(L.length-1)*g+g:=by
   conv=>lhs;rw[show L.length=L.length-1+1 by omega,jap,jaO]
  omega
theorem eo{α β : Type}{d:List Nat->Except Nat (α×List Nat)}{f:α->List Nat->Except Nat (β×List Nat)}{b r:List Nat}{y:β}(h:aA d f b=.ok (y,r)):∃ x s,d b=.ok (x,s)/\f x s=.ok (y,r):=by
 cases hd:d b with
 | error e=>rw[cA hd]at h;cases h
 | ok q =>
  obtain⟨x,s⟩:=q;rw[cV hd]at h;exact⟨x,s,rfl,h⟩
theorem wQ{room n:Nat}{b r:List Nat}(h:ig room b=.ok (n,r)):n<=room:=by
 unfold ig at h;split at h
 ·cases h
 ·split at h
  ·cases h
  ·next h1 =>
   simp only[Except.ok.injEq,Prod.mk.injEq]at h;omega
theorem QM{b r:List Nat}{f:Fd}(h:tV b=.ok (f,r)):Okf f:=by
 unfold tV at h;obtain⟨i,s1,e1,h⟩:=eo h;obtain⟨t,s2,e2,h⟩:=eo h;obtain⟨k,s3,e3,h⟩:=eo h;obtain⟨n,s4,e4,h⟩:=eo h;simp only[Except.ok.injEq,Prod.mk.injEq]at h;obtain⟨rfl,_⟩:=h;have h1:=wQ e1;have h3:=wQ e3;exact⟨by show i<_;omega,by show k<_;omega⟩
theorem zy:∀{n:Nat} {b r:List Nat} {l:List Fd},kK n b=.ok (l,r)->∀ f∈l,Okf f
 | 0,b,r,l,h=>by
  simp only[kK,Except.ok.injEq,Prod.mk.injEq]at h;obtain⟨rfl,_⟩:=h;intro f hf;simp at hf
 | n+1,b,r,l,h=>by
  unfold kK at h;obtain⟨l1,s1,e1,h⟩:=eo h;obtain⟨f1,s2,e2,h⟩:=eo h;simp only[Except.ok.injEq,Prod.mk.injEq]at h;obtain⟨rfl,_⟩:=h;intro f hf;rcases jaj.1 hf with hf | hf
  ·exact zy e1 f hf
  ·rw[jay.1 hf]
   exact QM e2
theorem tI{b r:List Nat}{id:Nat}{fs:List Fd}(h:cY b=.ok ((id,fs),r)):chk id fs=0/\id<4294967296/\∀ f∈fs,Okf f:=by
 unfold cY at h;obtain⟨q,s1,e1,h⟩:=eo h;unfold Cc at e1;obtain⟨i,s2,e2,e1⟩:=eo e1;obtain⟨n,s3,e3,e1⟩:=eo e1;obtain⟨l,s4,e4,e1⟩:=eo e1;simp only[Except.ok.injEq,Prod.mk.injEq]at e1;obtain⟨rfl,rfl⟩:=e1;have h2:=wQ e2;by_cases hc:chk i l=0
 ·rw[if_pos hc]at h
  simp only[Except.ok.injEq,Prod.mk.injEq]at h;obtain⟨⟨rfl,rfl⟩,_⟩:=h;exact⟨hc,by omega,zy e4⟩
 ·rw[if_neg hc]at h
  cases h
theorem tJ{b:List Nat}(hb:Bs b){id g:Nat}{fs:List Fd}{gs:List Gr}(h:iI b=some (id,fs,g,gs)) :
  chk id fs=0/\id<4294967296/\(∀ f∈fs,Okf f)/\1<=g/\g<=64/\(bP gs).length<=256/\DY fs (bP gs)/\gs=(List.range (nps g (bP gs).length)).map fun i=>grp fs (prt g (bP gs) i):=by
 unfold iI at h;split at h
 ·cases h
 ·split at h
  ·cases h
  ·split at h
   ·cases h
   ·next id' fs' r hu =>
    split at h
    ·cases h
    ·next hn =>
     simp only[Option.some.injEq,Prod.mk.injEq]at h;obtain⟨rfl,rfl,hg,rfl⟩:=h;obtain⟨hc,hi,ho⟩:=tI hu;have hk:=gW hc;have jM:=Bool.eq_false_iff.2 hn;have hs:=jM;unfold gV at hs;have iK:=pN (jav _) hs;simp only[fiJ,Bool.or_eq_false_iff]at iK;have eQ:=JK iK.2;have gK:=qP 1 64 (dC r);obtain⟨L,h1,h2,h3,h4,h5⟩:=zx gK hk (hb.take _) _ hs;have ht:=GJ (by omega) h3 h2
     have cU:bP (gV fs' (b.take (b.length-4-leN (b.drop (b.length-4)))) r).1=L.flatten:=by
      unfold gV bP;rw[h1,jao];congr 1
      exact List.map_id'' (fun _=>rfl) _
     rw[cU,← hg];have Hd:=qP 0 256 r;refine⟨hc,hi,ho,eQ,gK,by omega,?_,?_⟩
     ·intro x hx
      obtain⟨p,hp,hxp⟩:=List.mem_flatten.1 hx;exact h4 p hp x hxp
     ·unfold gV
      rw[h1,ht];apply List.ext_getElem?
      intro i;rw[List.getElem?_map,List.getElem?_map];by_cases VE:i<L.length
      ·rw[List.getElem?_eq_getElem VE,List.getElem?_range (by omega)]
       simp only[jaS];rw[QL (by omega) h3 h2 VE]
      ·rw[List.getElem?_eq_none (by omega),List.getElem?_eq_none (by simp;omega)]
       rfl
end Go.Proofs.YtpljdjmpamjkhaaGreatDoor
