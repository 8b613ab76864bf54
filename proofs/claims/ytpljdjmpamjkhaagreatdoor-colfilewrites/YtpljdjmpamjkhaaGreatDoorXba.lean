import Derived.Test.YtpljdjmpamjkhaaGreatDoorXaz
import Derived.RangeFuncNested
import Derived.RangeFuncBound
import Derived.Lib.SlBytesConst
set_option linter.unusedVariables false
set_option linter.unusedSimpArgs false
set_option maxRecDepth 100000
set_option maxHeartbeats 2000000
namespace Go.Proofs.YtpljdjmpamjkhaaGreatDoor
open Go.RowKit Go.Lib Go.Shelf
attribute [local go_sem] Oper.semAt_some
def zM(b off n g j:Nat):Value:=if j*g<n then .slice (some ⟨b,off+j*g,none⟩) (min g (n-j*g)) (min g (n-j*g)) else .slice none 0 0
def KC(p q:Nat)(A B:World):Prop:=B.heap[p]?=A.heap[p]?/\B.heap[q]?=A.heap[q]?
theorem KC.refl(p q:Nat)(A:World):KC p q A A:=⟨rfl,rfl⟩
theorem KC.trans{p q:Nat}{A B C:World}(h:KC p q A B)(k:KC p q B C):KC p q A C:=⟨k.1.trans h.1,k.2.trans h.2⟩
theorem KC.drewN{p q:Nat}{A B:World}(h:KC p q A B)(n:Nat):KC p q A (B.drewN n):=h
theorem KC.cells{p q:Nat}{A B:World}(h:KC p q A B):(∀ i,B.cell? ⟨p,i,none⟩=A.cell? ⟨p,i,none⟩)/\∀ i,B.cell? ⟨q,i,none⟩=A.cell? ⟨q,i,none⟩ :=
 ⟨fun i=>by simp only[World.cell?,h.1],fun i=>by simp only[World.cell?,h.2]⟩
theorem NQ(m:Nat)(hm:1<=m)(l Bs Bn b off n cap g:Nat)(eS:1<=g)(ik:g<=64)(hn:n<=256)(lp:n<=cap)(jT:cap<=9223372036854775807)(J Jx:List Nat->World->Prop)
  (hY:∀ pre x W,J pre W->pre.length<nps g n->YieldAt Fence.wide (m-1) Tryz.prog l #[zM b off n g x] W fun e W' =>
   (e=.returned (.bool true)/\J (pre++[x]) W'/\KC Bs Bn W W')∨(e=.returned (.bool false)/\Jx (pre++[x]) W'))
  (hJd:∀ pre W k,J pre W->J pre (World.drewN W k))
  (W:World) (hBs:W.cell? ⟨Bs,0,none⟩=some (.slice (some ⟨b,off,none⟩) n cap)) (hBn:W.cell? ⟨Bn,0,none⟩=some (.int .i64 (g:Int))) (h0:J [] W) :
  CallsIn Fence.wide m Tryz.prog 121 #[.func (.yield l) #[] #[],.pointer (some ⟨Bs,0,none⟩),.pointer (some ⟨Bn,0,none⟩)] W fun e W'=>(∃ v,e=.returned v) /\
   ((∃ ys,ys=List.range (nps g n)/\J ys W')∨(∃ pre,(∃ k,pre=List.range k)/\Jx pre W')):=by
 refine callsIn_of_wp Tryz.func121 rfl trivial ?_ rfl;simp only[Tryz.ntmps121,List.size_toArray,jdD,jdX,Nat.reduceAdd,Nat.reduceSub,Array.replicate_succ,Array.replicate_zero,List.push_toArray,List.append_toArray,jeu,jem];have Wc:jfp (∀ k,k<nps g n↔k*g<n):=ae (fun k=>kH (by omega));gi_wp2
 gi_loopw [4] (fun i wr=>∃ k:Nat,k<=nps g n/\i=.int .i64 ((k*g:Nat):Int)/\J (List.range k) wr/\KC Bs Bn W wr)
  (fun i _=>n+64-(intOf i).toNat)
 case atStart=>exact⟨0,jeh _,by simp,h0,KC.refl _ _ _⟩
 case round =>
  obtain⟨k,hk,rfl,hJs,xM⟩:=hrel;have HJS:=ae hJs;have lE:=ae xM;have PG:wr.cell? ⟨Bs,0,none⟩=some (.slice (some ⟨b,off,none⟩) n cap):=(xM.cells.1 0).trans hBs;have zY:wr.cell? ⟨Bn,0,none⟩=some (.int .i64 (g:Int)):=(xM.cells.2 0).trans hBn;have kP:jfp (∀ W',KC Bs Bn wr W'->W'.cell? ⟨Bn,0,none⟩=some (.int .i64 (g:Int))):=ae (fun W' h=>(h.cells.2 0).trans zY);have HJD:=ae hJd;clear hJs xM hJd;by_cases aB:k*g<n
  ·have UB:k<nps g n:=(Wc.o k).2 aB
   have HK1:jfp (k+1<=nps g n/\(k+1)*g=k*g+g):=ae ⟨UB,by rw[jd9,jeB]⟩;have HY:=ae (fun q=>hY _ k _ (HJD.o _ wr q HJS.o) (by simpa using UB));have HP:jfp (zM b off n g k=.slice (some ⟨b,off+k*g,none⟩) (min g (n-k*g)) (min g (n-k*g))):=ae (by unfold zM;rw[jdu aB]);have HRK:jfp (List.range (k+1)=List.range k++[k]):=ae jeN;have hkg:k*g<=256:=(by omega);clear hY UB hk;generalize hi:k*g=i at *;have h1:(0:Int)<=(i:Int):=(by omega);have h2:(i:Int)<=(n:Int):=(by omega);have h3:(i:Int)<=(cap:Int):=(by omega);have h4:(i:Int).toNat=i:=(by omega);have hlt':(i:Int)<(n:Int):=(by omega);have hE:min (g:Int) ((n-i:Nat):Int)=((min g (n-i):Nat):Int):=(by omega);have hE1:1<=min g (n-i):=(by omega);have hE2:min g (n-i)<=n-i:=(by omega);gi_wp2
   gi_quiet (fail)
   clear hE;generalize min g (n-i)=E at *;obtain⟨fn,tmps,assign,body,hy,hR⟩:=HY.o nq;rw[HP.o]at hy;have HR:=ae hR;clear hR HY HP;have hcs2:(wr.drewN nq).cell? ⟨Bs,0,none⟩=some (.slice (some ⟨b,off,none⟩) n cap):=PG;have h5:(i:Int)+(E:Int)<=(cap:Int):=(by omega);have h6:(i:Int)<=(i:Int)+(E:Int):=(by omega);have h7:IntKind.i64.wrap ((i:Int)+(E:Int))=(i:Int)+(E:Int):=by rw[jd7];omega
   have h8:((i:Int)+(E:Int)).toNat=i+E:=(by omega);have h9:(0:Int)<=(i:Int)+(E:Int):=(by omega);have no:¬ E=0:=(by omega);gi_wp2
   refine HR.o.mono ?_;rintro e W3 (⟨rfl,hJ3,LY⟩ | ⟨rfl,hJx3⟩)
   ·have hcn3:=kP.o _ (((KC.refl Bs Bn wr).drewN nq).trans LY)
    have HJ3:=ae hJ3;have HK3:=ae LY;clear hJ3 LY PG zY hcs2;gi_wp2
    go_roundw
    case rel=>exact⟨k+1,HK1.o.1,by rw[HK1.o.2];go_num,by rw[HRK.o];exact HJ3.o,(lE.o.drewN nq).trans HK3.o⟩
    case measure=>simp[intOf];omega
   ·gi_wp2
    refine bodyPost_ret (results_none rfl _ _ _) rfl ?_;exact⟨⟨_,rfl⟩,.inr ⟨_,⟨k+1,HRK.o.symm⟩,hJx3⟩⟩
  ·have FV:k=nps g n:=by
    have:=Wc.o k;omega
   subst FV;have hlt':¬ (((nps g n*g:Nat)):Int)<(n:Int):=(by omega);clear Wc aB hk;generalize nps g n*g=q at *;gi_wp2
   go_end0
   exact⟨⟨_,rfl⟩,.inl HJS.o⟩
theorem NR(a:Option Addr)(n cap g:Nat)(hg:1<=g)(w:World) :
  Calls Tryz.prog 82 #[.slice a n cap,.int .i64 (g:Int)] w fun e w'=>e=.returned (.func (.func 121) #[] #[.pointer (some ⟨w.heap.size,0,none⟩),.pointer (some ⟨w.heap.size+1,0,none⟩)])/\w'=(w.alloc (.cells #[.slice a n cap] 34)).alloc (.cells #[.int .i64 (g:Int)] 3):=by
 have aB:¬ (g:Int)<1:=by omega
 go_enter Tryz.func82,Tryz.ntmps82
 go_wp2_with fail;go_ret
 simp
theorem Rv.part{W:World}{b off cap g:Nat}{rs:List Row}(h:Rv W (.slice (some ⟨b,off,none⟩) rs.length cap) rs)(hl:rs.length<=256)(j:Nat):Rv W (zM b off rs.length g j) (prt g rs j):=by
 obtain⟨a',cap',e,h1,h2,h3,h4⟩:=h;simp only[Value.slice.injEq]at e;obtain⟨rfl,_,rfl⟩:=e;have kN:=bZ g rs j;unfold zM;by_cases aB:j*g<rs.length
 ·rw[jdu aB]
  obtain⟨b',off',e,h5,h6⟩:=h4 (by omega);cases e
  refine⟨some ⟨b,off+j*g,none⟩,min g (rs.length-j*g),by rw[kN,Nat.min_comm],by rw[kN,Nat.min_comm];exact jdw _,by unfold maxLen;omega,fun h=>(by cases h),fun h0=>⟨b,off+j*g,rfl,h5,fun k hk=>?_⟩⟩;rw[kN]at hk;obtain⟨rv,h7,h8⟩:=h6 (j*g+k) (by omega);refine⟨rv,by rw[jeD];exact h7,?_⟩;have:(prt g rs j)[k]'(by rw[kN];exact hk)=rs[j*g+k]'(by omega):=by simp[prt]
  rw[this];exact h8
 ·rw[jdt aB]
  have:prt g rs j=[]:=jdV (by rw[kN];omega);rw[this];exact Rv.nil W
def LitM(W:World)(base:Nat)(v:Value)(l:List Nat):Prop:=l=[67,70,49]/\∃ g,v=.slice (some ⟨g,0,none⟩) 3 3/\base<=g/\W.heap[g]?=some (.cells #[.int .u8 67,.int .u8 70,.int .u8 49] 5 (3,4))
def fQ(W:World)(base:Nat)(v:Value)(l:List Nat):Prop:=aD W base v l∨LitM W base v l
theorem fQ.grown{W W':World}{base:Nat}{row:Option Nat}{v:Value}{l:List Nat}(h:fQ W base v l)(hg:W.grownBy W' row)(fF:v.ownBlock=none∨v.ownBlock≠row):fQ W' base v l:=by
 rcases h with h | ⟨h1,g,rfl,h2,h3⟩
 ·exact Or.inl (World.ownsRow.kept h hg fF)
 ·refine Or.inr ⟨h1,g,rfl,h2,?_⟩
  have aB:=(Array.getElem?_eq_some_iff.1 h3).1
  rw[hg.block g aB (by
   rcases fF with h | h
   ·simp[Value.ownBlock]at h
   ·simpa [Value.ownBlock]using h)]
  exact h3
theorem fQ.kept{W W':World}{base:Nat}{v:Value}{l:List Nat}(h:fQ W base v l)(hb:Below W.heap.size W W'):fQ W' base v l:=by
 rcases h with h | ⟨h1,g,rfl,h2,h3⟩
 ·exact Or.inl (h.kept hb)
 ·exact Or.inr ⟨h1,g,rfl,h2,(hb.block g (Array.getElem?_eq_some_iff.1 h3).1).trans h3⟩
theorem fQ.lt{W:World}{base:Nat}{v:Value}{l:List Nat}(h:fQ W base v l):∀ k,v.ownBlock=some k->base<=k/\k<W.heap.size:=by
 intro k hk;rcases h with h | ⟨h1,g,rfl,h2,h3⟩
 ·exact World.ownsRow.lt h k hk
 ·simp[Value.ownBlock]at hk
  subst hk;exact⟨h2,(Array.getElem?_eq_some_iff.1 h3).1⟩
theorem fQ.block{W:World}{base:Nat}{v:Value}{l:List Nat}(h:fQ W base v l):∀ k,v.ownBlock=some k->∃ cur fz,W.heap[k]?=some (.cells cur 5 fz):=by
 intro k hk;rcases h with h | ⟨h1,g,rfl,h2,h3⟩
 ·rcases h.2 with ⟨rfl,_⟩ | ⟨g,cap,cur,rfl,_,PR,_⟩
  ·simp[Value.ownBlock]at hk
  ·simp[Value.ownBlock]at hk
   subst hk;exact⟨_,_,PR⟩
 ·simp[Value.ownBlock]at hk
  subst hk;exact⟨_,_,h3⟩
theorem fQ.slice{W:World}{base:Nat}{v:Value}{l:List Nat}(h:fQ W base v l):∃ a cap,v=.slice a l.length cap:=by
 rcases h with h | ⟨rfl,g,rfl,_⟩
 ·obtain⟨a,cap,e,_⟩:=aM h
  exact⟨a,cap,e⟩
 ·exact⟨_,_,rfl⟩
theorem fQ.sv{W:World}{base:Nat}{v:Value}{l:List Nat}(h:fQ W base v l):Sv W v (aF .u8 l):=by
 rcases h with h | ⟨rfl,g,rfl,_,h3⟩
 ·exact h.sv
 ·refine⟨_,3,rfl,jdw _,by unfold maxLen;omega,fun h=>(by cases h),fun _=>⟨g,0,rfl,(Array.getElem?_eq_some_iff.1 h3).1,fun j x hj=>?_⟩⟩
  rw[ay h3,jdZ];simpa [aF]using hj
theorem rF{W:World}{B:Nat}{t:TypeId}{u:Value}(hB:Boxed W B t u)(ht:t≠5){base:Nat}{v:Value}{l:List Nat}(h:fQ W base v l):some B≠v.ownBlock:=fun e=>by
 obtain⟨cur,fz,h1⟩:=h.block B e.symm;have:=(show W.heap[B]?=_ from hB).symm.trans h1;simp at this
 exact ht this.2.1
theorem rG{w:World}(ty:TypeId)(base:Nat)(v vx:Value)(l0 l:List Nat)(aA:fQ w base v l0)(fG:Sv w vx (aF .u8 l))(hp:0<l.length)(hbytes:l0.length+l.length<=140737488355328)(aJ:base<=w.heap.size) :
  ∃ v' w',(Builtin.append_ #[30,30] ty #[v,vx]).run Tryz.prog w=.ok v' w'/\aD w' base v' (l0++l)/\w.grownBy w' v.ownBlock/\(v'.ownBlock=v.ownBlock∨v'.ownBlock=some w.heap.size):=by
 rcases aA with aA | ⟨rfl,g,rfl,hg,jW⟩
 ·exact pq ty base v vx l0 l aA fG hbytes aJ
 ·obtain⟨i0,hi,ct,hz1',bv⟩:=jdP jk
  obtain⟨ad,cap,rfl,h1,h2,h3,h4⟩:=fG;rw[ar]at *;obtain⟨b,off,rfl,h5,h6⟩:=h4 hp
  have jbW:∀ j u,(aF .u8 l)[j]?=some u->w.cell? ((⟨b,off,none⟩:Addr).add j)=some u:=fun j u hu=>by
   rw[nh];exact h6 j u hu
  have hold:∀ j u,(aF .u8 [67,70,49])[j]?=some u->w.cell? ((⟨g,0,none⟩:Addr).add j)=some u:=fun j u hu=>by
   rw[nh,jdZ,ay jW];simpa [aF]using hu
  have Mc:([67,70,49]:List Nat).length=3:=rfl
  have hr:=run_append_grow (P:=Tryz.prog) w 30 ty 5 i0 (.int .u8 0) Tryz.underlying30 hi ct ⟨g,0,none⟩ 3 3 (aF .u8 [67,70,49]) (by rw[hz1'];rfl) hold ⟨b,off,none⟩ l.length cap (aF .u8 l) (by rw[ar,hz1',jeV]) jbW (by omega) (by omega)
   (by rw[bv];exact growslice_fits (by omega) (by omega))
  refine⟨_,_,hr,?_,⟨rfl,rfl,rfl,by simp,fun k hk _=>Below.heap_alloc w.drew _ k hk⟩,Or.inr rfl⟩;have gj:=grownCap_ge w (3+l.length) 3 5;have bw:grownCap w (3+l.length) 3 5<=maxLen:=grownCap_le_maxLen w (3+l.length) 3 5 (by unfold maxLen;omega);unfold aD;rw[jdy,Mc];refine⟨by rw[ar,jdy,Mc];omega,.inr ⟨w.heap.size,_,_,rfl,aJ,jdW w.drew _,gj,bw,?_,?_⟩⟩
  ·simp only[Array.size_append,List.size_toArray,size_zeroCells,ar,Mc,Value.cells]
   simp
   omega
  ·simp only[Array.toList_append,jdL]
   rw[← jdL,← cd];have hl4:(3+l.length)*1=(aF .u8 ([67,70,49]++l)).length:=by rw[ar,jdy,Mc];omega
   rw[hl4];exact jet
theorem tZ{w:World}{o:Oper}{a:Act}{K:Act->World->Prop}{Q:Exit->Act->World->Prop}(s x:Operand)
  (ho:o.op=.call { callee:=.builtin .append,args:=#[s,x],argTypes:=#[30,30] })
  (base:Nat) (v vx:Value) (l0 l:List Nat) (hs:a.eval s=v) (aA:fQ w base v l0) (hx:a.eval x=vx) (fG:Sv w vx (aF .u8 l)) (hp:0<l.length) (hbytes:l0.length+l.length<=140737488355328) (aJ:base<=w.heap.size)
  (h:∀ v' w',aD w' base v' (l0++l)->w.grownBy w' v.ownBlock->(v'.ownBlock=v.ownBlock∨v'.ownBlock=some w.heap.size)->K (a.put o.dst v') w'):Oper.wp Tryz.prog o a w K Q:=by
 obtain⟨v',w',hr,h2,h3,h4⟩:=rG o.type base v vx l0 l aA fG hp hbytes aJ;unfold Oper.wp execOp;simp only[ho,resolve,invoke,builtin,Sem.run_bind,Sem.run_pure,Result.andThen_ok,jeJ,jd5,jes,hs,hx,hr];exact h v' w' h2 h3 h4
theorem lB{w:World}{ops:Array Oper}{o:Oper}{a:Act}{K:Act->World->Prop}{Q:Exit->Act->World->Prop}{E:Prop}(ex:o.guard=none)(s x:Operand)
  (ho:o.op=.call { callee:=.builtin .append,args:=#[s,x],argTypes:=#[30,30] })
  (base:Nat) (v vx:Value) (l0 l:List Nat) (hs:a.eval s=v) (aA:fQ w base v l0) (hx:a.eval x=vx) (fG:Sv w vx (aF .u8 l)) (hp:0<l.length) (hbytes:l0.length+l.length<=140737488355328) (aJ:base<=w.heap.size)
  (h:∀ v' w',aD w' base v' (l0++l)->w.grownBy w' v.ownBlock->(v'.ownBlock=v.ownBlock∨v'.ownBlock=some w.heap.size)->K (a.put o.dst v') w') :
  if Region.wanted o (yielded ops a.tmps)=true then Oper.wp Tryz.prog o a w K Q else E:=by
 have hw:Region.wanted o (yielded ops a.tmps)=true:=by simp[Region.wanted,ex]
 rw[jdu hw];exact tZ s x ho base v vx l0 l hs aA hx fG hp hbytes aJ h
theorem jI{w:World}{ops:Array Oper}{rest:List Oper}{o:Oper}{a:Act}{Q:Exit->Act->World->Prop}(ex:o.guard=none)(s x:Operand)
  (ho:o.op=.call { callee:=.builtin .append,args:=#[s,x],argTypes:=#[30,30] })
  (base:Nat) (v vx:Value) (l0 l:List Nat) (hs:a.eval s=v) (aA:fQ w base v l0) (hx:a.eval x=vx) (fG:Sv w vx (aF .u8 l)) (hp:0<l.length) (hbytes:l0.length+l.length<=140737488355328) (aJ:base<=w.heap.size)
  (h:∀ v' w',aD w' base v' (l0++l)->w.grownBy w' v.ownBlock->(v'.ownBlock=v.ownBlock∨v'.ownBlock=some w.heap.size)->wpList Tryz.prog ops Q rest (a.put o.dst v') w') :
  wpList Tryz.prog ops Q (o::rest) a w :=
 wpList_plain ex fun K hK=>tZ s x ho base v vx l0 l hs aA hx fG hp hbytes aJ fun v' w' h1 h2 h3=>hK _ _ (h v' w' h1 h2 h3)
theorem df{F:Fence}{n:Nat}{w:World}{o:Oper}{a:Act}{K:Act->World->Prop}{Q:Exit->Act->World->Prop}(s x:Operand)
  (ho:o.op=.call { callee:=.builtin .append,args:=#[s,x],argTypes:=#[30,30] })
  (base:Nat) (v vx:Value) (l0 l:List Nat) (hs:a.eval s=v) (aA:fQ w base v l0) (hx:a.eval x=vx) (fG:Sv w vx (aF .u8 l)) (hp:0<l.length) (hbytes:l0.length+l.length<=140737488355328) (aJ:base<=w.heap.size)
  (h:∀ v' w',aD w' base v' (l0++l)->w.grownBy w' v.ownBlock->(v'.ownBlock=v.ownBlock∨v'.ownBlock=some w.heap.size)->K (a.put o.dst v') w'):Oper.wpIn F n Tryz.prog o a w K Q:=by
 obtain⟨v',w',hr,h2,h3,h4⟩:=rG o.type base v vx l0 l aA fG hp hbytes aJ;unfold Oper.wpIn;refine⟨by simp[Oper.about,ho,resolve,Target.leads,Sem.run_pure],?_⟩;rw[Oper.semAt_plain F _ _ (by rw[ho];intro c hc';cases hc')];simp[execOp,ho,resolve,invoke,builtin,hs,hx,hr,Result.andThen]
 exact h v' w' h2 h3 h4
theorem rH{F:Fence}{n:Nat}{w:World}{ops:Array Oper}{rest:List Oper}{o:Oper}{a:Act}{Q:Exit->Act->World->Prop}(ex:o.guard=none)(s x:Operand)
  (ho:o.op=.call { callee:=.builtin .append,args:=#[s,x],argTypes:=#[30,30] })
  (base:Nat) (v vx:Value) (l0 l:List Nat) (hs:a.eval s=v) (aA:fQ w base v l0) (hx:a.eval x=vx) (fG:Sv w vx (aF .u8 l)) (hp:0<l.length) (hbytes:l0.length+l.length<=140737488355328) (aJ:base<=w.heap.size)
  (h:∀ v' w',aD w' base v' (l0++l)->w.grownBy w' v.ownBlock->(v'.ownBlock=v.ownBlock∨v'.ownBlock=some w.heap.size)->wpListIn F n Tryz.prog ops Q rest (a.put o.dst v') w') :
  wpListIn F n Tryz.prog ops Q (o::rest) a w :=
 wpListIn_plain ex fun K hK=>df s x ho base v vx l0 l hs aA hx fG hp hbytes aJ fun v' w' h1 h2 h3=>hK _ _ (h v' w' h1 h2 h3)
def Bx2(W:World)(base B1 B2:Nat)(v1 v2:Value)(l1 l2:List Nat):Prop :=
 Boxed W B1 30 v1/\Boxed W B2 30 v2/\B1≠B2/\fQ W base v1 l1/\fQ W base v2 l2/\nI v1 v2/\base<=B1/\base<=B2
theorem Bx2.swap{W:World}{base B1 B2:Nat}{v1 v2:Value}{l1 l2:List Nat}(h:Bx2 W base B1 B2 v1 v2 l1 l2):Bx2 W base B2 B1 v2 v1 l2 l1:=by
 obtain⟨a,b,c,d,e,f,g,i⟩:=h;exact⟨b,a,c.symm,e,d,f.symm,i,g⟩
theorem Bx2.kept{W W':World}{base B1 B2:Nat}{v1 v2:Value}{l1 l2:List Nat}(h:Bx2 W base B1 B2 v1 v2 l1 l2)(hb:Below W.heap.size W W'):Bx2 W' base B1 B2 v1 v2 l1 l2:=by
 obtain⟨a,b,c,d,e,f,g,i⟩:=h;exact⟨(hb.block B1 a.lt).trans a,(hb.block B2 b.lt).trans b,c,d.kept hb,e.kept hb,f,g,i⟩
theorem Bx2.cells{W:World}{base B1 B2:Nat}{v1 v2:Value}{l1 l2:List Nat}(h:Bx2 W base B1 B2 v1 v2 l1 l2):(W.cell? ⟨B1,0,none⟩=some v1/\W.frozen? ⟨B1,0,none⟩=false)/\(W.cell? ⟨B2,0,none⟩=some v2/\W.frozen? ⟨B2,0,none⟩=false) :=
 ⟨⟨h.1.cell,h.1.frozen⟩,h.2.1.cell,h.2.1.frozen⟩
theorem Bx2.app{W w1:World}{base B1 B2:Nat}{v1 v2 v':Value}{l1 l2 l':List Nat}(h:Bx2 W base B1 B2 v1 v2 l1 l2)(aJ:base<=W.heap.size)
  (ho:aD w1 base v' l') (hg:W.grownBy w1 v1.ownBlock) (he:v'.ownBlock=v1.ownBlock∨v'.ownBlock=some W.heap.size) :
  (w1.cell? ⟨B1,0,none⟩=some v1/\w1.frozen? ⟨B1,0,none⟩=false)/\Bx2 (w1.setCell ⟨B1,0,none⟩ v') base B1 B2 v' v2 l' l2/\Below base W (w1.setCell ⟨B1,0,none⟩ v'):=by
 obtain⟨a,b,c,d,e,f,g,i⟩:=h;have Cv:Boxed w1 B1 30 v1:=a.kept hg (rF a (by decide) d);have hv2:Boxed w1 B2 30 v2:=b.kept hg (rF b (by decide) d);have h2:fQ w1 base v2 l2:=e.grown hg f.symm.ne;have hb:Below base W w1:=(jdv base W).grown hg aJ (fun k hk=>(d.lt k hk).1)
 refine⟨⟨Cv.cell,Cv.frozen⟩,⟨Cv.set v',hv2.kept (grownBy_setCell' w1 B1 v') (by intro e;exact c (by cases e;rfl)),c,Or.inl (World.ownsRow.kept ho (grownBy_setCell' w1 B1 v') (Or.inr (Cv.not_row (by decide) ho).symm)),
  h2.grown (grownBy_setCell' w1 B1 v') (Or.inr (rF Cv (by decide) h2).symm),f.grow he (fun k hk=>(e.lt k hk).2),g,i⟩,?_⟩
 exact hb.setCell (p:=⟨B1,0,none⟩) g v'
theorem eg{W W':World}(h:Below W.heap.size W W'):KeepsOthers W W':=by
 refine KeepsOthers.of_grownBy (row:=none) ⟨h.os,h.tape,h.output,h.size,fun k hk _=>h.block k hk⟩ (fun j o e=>by cases e)
theorem Bx2.keeps{W w1:World}{base B1 B2:Nat}{v1 v2 v':Value}{l1 l2:List Nat}(h:Bx2 W base B1 B2 v1 v2 l1 l2)(hg:W.grownBy w1 v1.ownBlock):KeepsOthers W (w1.setCell ⟨B1,0,none⟩ v'):=by
 obtain⟨a,b,c,d,e,f,g,i⟩:=h;refine(KeepsOthers.of_grownBy hg fun j o ej hj=>?_).trans (KeepsOthers.setCell _ _ _);obtain⟨cur,fz,h1⟩:=d.block j ej;rw[h1]at hj;cases hj
 rfl
theorem Bx2.other{W w1:World}{base B1 B2 p:Nat}{v1 v2 v':Value}{l1 l2:List Nat}(h:Bx2 W base B1 B2 v1 v2 l1 l2)(hg:W.grownBy w1 v1.ownBlock){t:TypeId}{u:Value}(hp:Boxed W p t u)(ht:t≠5)(Kh:t≠30):Boxed (w1.setCell ⟨B1,0,none⟩ v') p t u:=by
 obtain⟨a,b,c,d,e,f,g,i⟩:=h;have h1:Boxed w1 p t u:=hp.kept hg (rF hp ht d);refine h1.kept (grownBy_setCell' w1 B1 v') (fun e=>?_);cases e
 have:=(show _=_ from hp).symm.trans (show _=_ from a);simp at this
 exact Kh this.2
theorem Bx2.turned{W W':World}{base B1 B2:Nat}{v1 v2:Value}{l1 l2:List Nat}{row:Option Nat}(h:Bx2 W base B1 B2 v1 v2 l1 l2)(hg:W.grownBy W' row)(hr:∀ r,row=some r->∃ o:Obj,W.heap[r]?=some o/\o.isCells=false):Bx2 W' base B1 B2 v1 v2 l1 l2:=by
 obtain⟨a,b,c,d,e,f,g,i⟩:=h
 have hbox:∀{p t v},Boxed W p t v->some p≠row:=fun hp e=>by
  obtain⟨o,h1,h2⟩:=hr _ e.symm;rw[show W.heap[_]?=_ from hp]at h1;cases h1
  cases h2
 have jX:∀{v l},fQ W base v l->v.ownBlock=none∨v.ownBlock≠row:=fun{v l} hv=>by
  cases hb:v.ownBlock with
  | none=>exact Or.inl rfl
  | some k =>
   refine Or.inr fun e=>?_
   obtain⟨o,h1,h2⟩:=hr _ e.symm;obtain⟨cur,fz,h3⟩:=hv.block k hb;rw[h3]at h1;cases h1
   cases h2
 exact⟨a.kept hg (hbox a),b.kept hg (hbox b),c,d.grown hg (jX d),e.grown hg (jX e),f,g,i⟩
theorem fQ.deferred{W W':World}{base D:Nat}{v:Value}{l:List Nat}{o:Obj}(h:fQ W base v l)(hg:W.grownBy W' v.ownBlock)(hD:W.heap[D]?=some o)(ho:o.isCells=false):W'.heap[D]?=some o:=by
 refine(hg.block D (Array.getElem?_eq_some_iff.1 hD).1 (fun e=>?_)).trans hD;obtain⟨cur,fz,h1⟩:=h.block D e.symm;rw[h1]at hD;cases hD
 cases ho
theorem Bx2.keepV{W w1:World}{base B1 B2:Nat}{v1 v2 v':Value}{l1 l2:List Nat}(h:Bx2 W base B1 B2 v1 v2 l1 l2)(hg:W.grownBy w1 v1.ownBlock){B e size n:Nat}{u:Value}{xs:List Value}(hv:W.ownsRow B e size u n xs)(he:e≠5)(he2:e≠30):(w1.setCell ⟨B1,0,none⟩ v').ownsRow B e size u n xs:=by
 obtain⟨a,b,c,d,e',f,g,i⟩:=h
 have h1:w1.ownsRow B e size u n xs:=hv.kept hg (by
  cases hb:u.ownBlock with
  | none=>exact Or.inl rfl
  | some k =>
   refine Or.inr fun e1=>?_
   obtain⟨cur,fz,h3⟩:=d.block k e1.symm;rcases hv.2 with ⟨rfl,_⟩ | ⟨g,cap,cur2,rfl,_,PR,_⟩
   ·simp[Value.ownBlock]at hb
   ·simp[Value.ownBlock]at hb
    subst hb;rw[h3]at PR;simp at PR
    exact he PR.2.1.symm)
 have Cv:Boxed w1 B1 30 v1:=a.kept hg (rF a (by decide) d);exact h1.kept (grownBy_setCell' w1 B1 v') (Or.inr (Cv.not_row (fun e1=>he2 e1.symm) h1).symm)
theorem NS{W W':World}{D:Nat}{o:Obj}(hb:Below W.heap.size W W')(hD:W.heap[D]?=some o):W'.heap[D]?=some o:=(hb.block D (Array.getElem?_eq_some_iff.1 hD).1).trans hD
theorem fQ.below{W W':World}{base:Nat}{v:Value}{l:List Nat}(h:fQ W base v l)(hg:W.grownBy W' v.ownBlock)(hb:base<=W.heap.size):Below base W W':=(jdv base W).grown hg hb (fun k hk=>(h.lt k hk).1)
attribute [local go_sem] Oper.semAt_some
theorem ll(cs:List Cl):∃ n:Nat,(cA cs).nulls=(n:Int)/\n<=cs.length:=by
 unfold cA;split
 ·exact⟨cs.length,rfl,jdw _⟩
 ·next x r h =>
  have hl:(aZ cs).length<=cs.length:=je4 _ _;rw[h]at hl;exact⟨cs.length-(x::r).length,by show (cs.length:Int)-_=_;omega,by omega⟩
theorem mj{fs:List Fd}{p:List Row}(h:jQ fs p)(k:Nat):∀ c∈cW p k,aT c:=fun c hc=>by
 obtain⟨r,hr,rfl⟩:=jdR.1 hc;rw[List.getD_eq_getElem?_getD];cases hg:r[k]? with
 | none=>exact Or.inl rfl
 | some y=>exact(h r hr).2 y (List.mem_of_getElem? hg)
theorem oQ{st:Stt}(h1:aT st.lo)(h2:aT st.hi)(hn:∃ n:Nat,st.nulls=(n:Int)/\n<=1000000):(et st).length<=160/\Bs (et st):=by
 obtain⟨n,hn,LH⟩:=hn;have hu:=bM (n:=n) (by omega);have b1:=mg h1;have b2:=mg h2
 have hb:∀{c:Cl},aT c->Bs (gG c):=fun{c} hc=>by
  unfold gG;split
  ·exact gU
  ·split
   ·intro x hx
    have:=jef.1 hx;omega
   ·refine Bs.app gU ?_
    rcases hc with rfl | ⟨m,rfl,_⟩ | ⟨m,rfl,_⟩ | ⟨s,rfl,_,h8⟩
    ·exact fun x hx=>by simp[nul]at hx
    ·exact fun x hx=>by simp at hx
    ·exact fun x hx=>by simp at hx
    ·exact h8
 unfold et;rw[hn,jd1];refine⟨?_,Bs.app (Bs.app gU (fun x hx=>?_)) (Bs.app ?_ ?_)⟩
 ·simp only[jdy,jd6]
  split<;>split<;>(try simp only[jdX])<;>omega
 ·have:=jef.1 hx
  have:=Xk st;omega
 ·split
  ·exact hb h1
  ·exact fun x hx=>by simp at hx
 ·split
  ·exact hb h2
  ·exact fun x hx=>by simp at hx
theorem Lr{fs:List Fd}{p:List Row}(h:jQ fs p)(hl:p.length<=256)(k:Nat):aT (cA (cW p k)).lo/\aT (cA (cW p k)).hi/\∃ n:Nat,(cA (cW p k)).nulls=(n:Int)/\n<=1000000:=by
 obtain⟨h1,h2⟩:=kD (mj h k);obtain⟨n,h3,h4⟩:=ll (cW p k);rw[dr]at h4;exact⟨h1,h2,n,h3,by omega⟩
theorem ml{fs:List Fd}{p:List Row}(dW:∀ k,k<fs.length->Col (mb fs k) (cW p k)):∀{k:Nat},k<=fs.length->(eN fs p k).length<=21600*k/\Bs (eN fs p k):=by
 intro k;induction k with
 | zero=>exact fun _=>⟨by simp[eN],fun x hx=>by simp[eN]at hx⟩
 | succ k ih =>
  intro hk;obtain⟨h1,h2⟩:=ih (by omega);obtain⟨h3,h4⟩:=iw (dW k (by omega));rw[me];exact⟨by rw[jdy];omega,Bs.app h2 h4⟩
theorem oR{fs:List Fd}{p:List Row}(h:jQ fs p)(hl:p.length<=256)(dW:∀ k,k<fs.length->Col (mb fs k) (cW p k)):∀{k:Nat},k<=fs.length->(ftK fs p k).length<=170*k/\Bs (ftK fs p k):=by
 intro k;induction k with
 | zero=>exact fun _=>⟨by simp[ftK],fun x hx=>by simp[ftK]at hx⟩
 | succ k ih =>
  intro hk;obtain⟨h1,h2⟩:=ih (by omega);obtain⟨h3,h4⟩:=iw (dW k (by omega));obtain⟨a1,a2,a3⟩:=Lr h hl k;obtain⟨b1,b2⟩:=oQ a1 a2 a3;have hu:=bM (n:=(eo (mb fs k) (cW p k)).length) (by omega);rw[nR];exact⟨by simp only[jdy];omega,Bs.app h2 (Bs.app gU b2)⟩
theorem iC{f:Nat->List Nat}{m:Nat}(h:∀ j,(f j).length<=m):∀ pre:List Nat,(pre.flatMap f).length<=m*pre.length
 | []=>by simp
 | j::t=>by
  have:=iC h t;have:=h j;rw[jeQ,jdy,jdD,jeE];omega
theorem Bt{f:Nat->List Nat}(h:∀ j,Bs (f j)):∀ pre:List Nat,Bs (pre.flatMap f)
 | []=>fun x hx=>by simp at hx
 | j::t=>by
  rw[jeQ];exact Bs.app (h j) (Bt h t)
theorem ki{g n:Nat}(hg:1<=g)(hn:n<=256):nps g n<=256:=by
 rcases jdY 256 (nps g n)with h | h
 ·have:=(kH (j:=256) (show 0<g by omega)).1 h
  have:256*1<=256*g:=jey _ hg;omega
 ·exact h
theorem EE(m:Nat)(hm:1<=m)(l Bs Bn cap:Nat)(a:Option Addr)(J:List Nat->World->Prop)(W:World)(hBs:W.cell? ⟨Bs,0,none⟩=some (.slice a 0 cap))(h0:J [] W) :
  CallsIn Fence.wide m Tryz.prog 121 #[.func (.yield l) #[] #[],.pointer (some ⟨Bs,0,none⟩),.pointer (some ⟨Bn,0,none⟩)] W fun e W'=>(∃ v,e=.returned v)/\J [] W':=by
 refine callsIn_of_wp Tryz.func121 rfl trivial ?_ rfl;simp only[Tryz.ntmps121,List.size_toArray,jdD,jdX,Nat.reduceAdd,Nat.reduceSub,Array.replicate_succ,Array.replicate_zero,List.push_toArray,List.append_toArray,jeu,jem];gi_wp2
 gi_loopw [4] (fun i wr=>i=.int .i64 0/\wr=W) (fun _ _=>0)
 case atStart=>exact⟨rfl,rfl⟩
 case round =>
  obtain⟨rfl,rfl⟩:=hrel;gi_wp2
  go_end0
  exact⟨⟨_,rfl⟩,h0⟩
theorem NT{w:World}{ra:Option Addr}{rcap:Nat}{rs:List Row}(hr:Rv w (.slice ra rs.length rcap) rs)(hl:rs.length<=256){g:Nat}(eS:1<=g)(ik:g<=64)(m:Nat)(hm:1<=m) :
  ∃ PV:Nat->Value,(∀ W,Rv W (.slice ra rs.length rcap) rs->∀ j,Rv W (PV j) (prt g rs j))/\∀(p q:Nat) (Z:World),Z.cell? ⟨p,0,none⟩=some (.slice ra rs.length rcap)->Z.cell? ⟨q,0,none⟩=some (.int .i64 (g:Int))->p<Z.heap.size->q<Z.heap.size ->
   SeqStopsK Fence.wide m Tryz.prog 121 #[.pointer (some ⟨p,0,none⟩),.pointer (some ⟨q,0,none⟩)] (fun j=>#[PV j]) (KC p q) (fun ys=>ys=List.range (nps g rs.length)) (fun pre=>∃ k,pre=List.range k) (nps g rs.length) Z:=by
 obtain⟨a',cap',e,h1,h2,h3,h4⟩:=hr;simp only[Value.slice.injEq]at e;obtain⟨rfl,_,rfl⟩:=e;have bw:rcap<=9223372036854775807:=by unfold maxLen at h2;omega
 rcases jel rs.length with h0 | h0
 ·have ZB:rs=[]:=jdV h0
  subst ZB;refine⟨fun _=>.slice none 0 0,fun W _ j=>?_,fun p q Z hp hq Qd nj l J Jx W hW hJ hJx hY h00=>?_⟩
  ·have:prt g ([]:List Row) j=[]:=by simp[prt]
   rw[this];exact Rv.nil W
  ·have hn:nps g ([]:List Row).length=0:=TK g (by omega)
   rw[hn];refine(EE m hm l p q rcap ra J W ((hW.cell (p:=⟨p,0,none⟩) Qd).trans hp) h00).mono ?_;rintro e W' ⟨he,hj⟩;exact⟨he,.inl ⟨[],rfl,hj⟩⟩
 ·obtain⟨b,off,rfl,h5,h6⟩:=h4 h0
  refine⟨zM b off rs.length g,fun W hW j=>hW.part hl j,fun p q Z hp hq Qd nj l J Jx W hW hJ hJx hY h00=>?_⟩;refine(NQ m hm l p q b off rs.length rcap g eS ik hl h1 bw J Jx hY (fun pre U k hU=>hJ pre U _ none hU ⟨rfl,rfl,rfl,jdw _,fun _ _ _=>rfl⟩ (fun r e=>by cases e)) W ((hW.cell (p:=⟨p,0,none⟩) Qd).trans hp) ((hW.cell (p:=⟨q,0,none⟩) nj).trans hq) h00).mono ?_;rintro e W' ⟨he,⟨ys,rfl,hj⟩ | ⟨pre,hk,hj⟩⟩
  ·exact⟨he,.inl ⟨_,rfl,hj⟩⟩
  ·exact⟨he,.inr ⟨_,hk,hj⟩⟩
end Go.Proofs.YtpljdjmpamjkhaaGreatDoor
