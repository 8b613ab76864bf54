import Derived.Test.YtpljdjmpamjkhaaGreatDoorXbo
set_option linter.unusedVariables false
set_option linter.unusedSimpArgs false
namespace Go.Proofs.YtpljdjmpamjkhaaGreatDoor
open Go.RowKit Go.Lib
def zU(c:Nat×Int×List Nat):Prop :=
 c=nul∨(∃ n,c=(1,n,[])/\I64 n)∨(∃ n:Nat,c=(2,(n:Int),[])/\n<2)∨(∃ s,c=(3,0,s)/\Bs s)
theorem aT.wide{c:Nat×Int×List Nat}(h:aT c):zU c:=by
 rcases h with h | h | h | ⟨s,h,_,h2⟩
 ·exact Or.inl h
 ·exact Or.inr (Or.inl h)
 ·exact Or.inr (Or.inr (Or.inl h))
 ·exact Or.inr (Or.inr (Or.inr ⟨s,h,h2⟩))
theorem zU.fine{c:Nat×Int×List Nat}(h:zU c)(hs:c.2.2.length<=64):aT c:=by
 rcases h with h | h | h | ⟨s,rfl,h2⟩
 ·exact Or.inl h
 ·exact Or.inr (Or.inl h)
 ·exact Or.inr (Or.inr (Or.inl h))
 ·exact Or.inr (Or.inr (Or.inr ⟨s,rfl,hs,h2⟩))
theorem zU.parts{c:Nat×Int×List Nat}(h:zU c):c.1<=3/\I64 c.2.1/\Bs c.2.2:=by
 rcases h with rfl | ⟨n,rfl,h⟩ | ⟨n,rfl,h⟩ | ⟨s,rfl,h⟩
 ·exact⟨by simp[nul],by simp[nul,I64],fun x hx=>by simp[nul]at hx⟩
 ·exact⟨by simp,h,fun x hx=>by simp at hx⟩
 ·exact⟨by simp,by simp only[I64];omega,fun x hx=>by simp at hx⟩
 ·exact⟨by simp,by simp[I64],h⟩
def xy(z:Int):Nat:=(z % 18446744073709551616).toNat
theorem Kb(z:Int):IntKind.u64.wrap z=(xy z:Int):=by rw[jd0];unfold xy;omega
def tr4(l:List (Nat×Int×List Nat)):List Nat:=(bS l).map fun c=>xy c.2.1
def wh4(l:List (Nat×Int×List Nat)):List Int:=(bS l).map fun c=>c.2.1
def wd4(l:List (Nat×Int×List Nat)):List (List Nat):=(bS l).map fun c=>c.2.2
theorem Pt{l:List (Nat×Int×List Nat)}{j:Nat}(h:j<l.length)(h0:l[j].1=0):bN (l.take (j+1))=bN (l.take j)++[0]/\tr4 (l.take (j+1))=tr4 (l.take j)/\wh4 (l.take (j+1))=wh4 (l.take j)/\wd4 (l.take (j+1))=wd4 (l.take j):=by
 have h1:=jH h;have h2:=fO h;rw[jdu h0]at h1 h2;rw[jdT]at h2;unfold tr4 wh4 wd4;rw[h2];exact⟨h1,rfl,rfl,rfl⟩
theorem Pu{l:List (Nat×Int×List Nat)}{j:Nat}(h:j<l.length)(h0:l[j].1≠0):bN (l.take (j+1))=bN (l.take j)++[1]/\tr4 (l.take (j+1))=tr4 (l.take j)++[xy l[j].2.1]/\wh4 (l.take (j+1))=wh4 (l.take j)++[l[j].2.1]/\wd4 (l.take (j+1))=wd4 (l.take j)++[l[j].2.2]:=by
 have h1:=jH h;have h2:=fO h;rw[jdt h0]at h1 h2;unfold tr4 wh4 wd4;rw[h2,jdQ,jdQ,jdQ];exact⟨h1,rfl,rfl,rfl⟩
theorem Un(l:List (Nat×Int×List Nat))(j:Nat):(bN (l.take j)).length<=l.length/\(tr4 (l.take j)).length<=l.length/\(wh4 (l.take j)).length<=l.length/\(wd4 (l.take j)).length<=l.length:=by
 have h:=jh l j;refine⟨by rw[bn,jdC];omega,?_,?_,?_⟩
 ·unfold tr4;rw[jdz];exact h
 ·unfold wh4;rw[jdz];exact h
 ·unfold wd4;rw[jdz];exact h
def jS(W:World)(B:Nat)(a b c d:Value)(L1 L2:List Nat)(L3:List Int)(L4:List (List Nat)):Prop:=dH W B a L1/\dH W B b L2/\bC W B c L3/\eF W B d L4/\Ap a b
theorem jS.nil(W:World)(B:Nat):jS W B (.slice none 0 0) (.slice none 0 0) (.slice none 0 0) (.slice none 0 0) [] [] [] []:=⟨dH.nil _ _,dH.nil _ _,bC.nil _ _,eF.nil _ _,fun g hg=>by cases hg⟩
theorem jS.kept{W W':World}{B:Nat}{a b c d:Value}{L1 L2:List Nat}{L3:List Int}{L4:List (List Nat)}(h:jS W B a b c d L1 L2 L3 L4)(hb:Below W.heap.size W W'):jS W' B a b c d L1 L2 L3 L4:=⟨h.1.kept hb,h.2.1.kept hb,h.2.2.1.kept hb,h.2.2.2.1.kept hb,h.2.2.2.2⟩
theorem jS.g1{W W':World}{B:Nat}{a a' b c d:Value}{L1 L1' L2:List Nat}{L3:List Int}{L4:List (List Nat)}(h:jS W B a b c d L1 L2 L3 L4)(ho:dH W' B a' L1')(hg:W.grownBy W' a.ownBlock)(hn:a'.ownBlock=a.ownBlock∨a'.ownBlock=some W.heap.size):jS W' B a' b c d L1' L2 L3 L4:=by
 obtain⟨h1,h2,h3,h4,h5⟩:=h;exact⟨ho,dA h2 hg h5.symm,dA h3 hg (Ap.of_types h3 h1 (by decide)),dA h4 hg (Ap.of_types h4 h1 (by decide)),h5.grow hn (fun k hk=>(h2.lt k hk).2)⟩
theorem jS.g2{W W':World}{B:Nat}{a b b' c d:Value}{L1 L2 L2':List Nat}{L3:List Int}{L4:List (List Nat)}(h:jS W B a b c d L1 L2 L3 L4)(ho:dH W' B b' L2')(hg:W.grownBy W' b.ownBlock)(hn:b'.ownBlock=b.ownBlock∨b'.ownBlock=some W.heap.size):jS W' B a b' c d L1 L2' L3 L4:=by
 obtain⟨h1,h2,h3,h4,h5⟩:=h;exact⟨dA h1 hg h5,ho,dA h3 hg (Ap.of_types h3 h2 (by decide)),dA h4 hg (Ap.of_types h4 h2 (by decide)),(h5.symm.grow hn (fun k hk=>(h1.lt k hk).2)).symm⟩
theorem jS.g3{W W':World}{B:Nat}{a b c c' d:Value}{L1 L2:List Nat}{L3 L3':List Int}{L4:List (List Nat)}(h:jS W B a b c d L1 L2 L3 L4)(ho:bC W' B c' L3')(hg:W.grownBy W' c.ownBlock):jS W' B a b c' d L1 L2 L3' L4:=by
 obtain⟨h1,h2,h3,h4,h5⟩:=h;exact⟨dA h1 hg (Ap.of_types h1 h3 (by decide)),dA h2 hg (Ap.of_types h2 h3 (by decide)),ho,dA h4 hg (Ap.of_types h4 h3 (by decide)),h5⟩
theorem jS.g4{W W':World}{B:Nat}{a b c d d':Value}{L1 L2:List Nat}{L3:List Int}{L4 L4':List (List Nat)}(h:jS W B a b c d L1 L2 L3 L4)(ho:eF W' B d' L4')(hg:W.grownBy W' d.ownBlock):jS W' B a b c d' L1 L2 L3 L4':=by
 obtain⟨h1,h2,h3,h4,h5⟩:=h;exact⟨dA h1 hg (Ap.of_types h1 h4 (by decide)),dA h2 hg (Ap.of_types h2 h4 (by decide)),dA h3 hg (Ap.of_types h3 h4 (by decide)),ho,h5⟩
theorem Kc{x:List Nat}:∀{u:List (List Nat)} {q:Nat} (h:q<u.length),q<plT u x->u[q]≠x
 | y::t,0,h,hq=>by
  intro e;unfold plT at hq;rw[jdu (by simpa using e)]at hq;omega
 | y::t,q+1,h,hq=>by
  unfold plT at hq;split at hq
  ·omega
  ·have:=Kc (x:=x) (u:=t) (q:=q) (by simpa using h) (by omega)
   simpa using this
theorem LC{l:List (Nat×Int×List Nat)}(h:∀ c∈l,gA 2 c):tr4 l=(bS l).map fun c=>c.2.1.toNat:=by
 unfold tr4;apply jeq
 intro c hc;obtain⟨h1,h2⟩:=jn hc;rcases h c h1 with rfl | ⟨e,_⟩ | ⟨_,n,rfl,hn⟩ | ⟨e,_⟩
 ·exact absurd rfl h2
 ·omega
 ·simp only[xy];omega
 ·omega
theorem ue{k:Nat}{l:List (Nat×Int×List Nat)}(h:¬ (1<=k/\k<=3/\∀ c∈l,c.1=0∨c.1=k)):dU k l=([],10):=jdt h
theorem Fq{k:Nat}{l:List (Nat×Int×List Nat)}(h:1<=k/\k<=3/\∀ c∈l,c.1=0∨c.1=k)(h2:¬ (l.length<=256/\∀ c∈l,c.2.2.length<=64)):dU k l=([],5):=by
 unfold dU;rw[jdu h,jdt h2]
end Go.Proofs.YtpljdjmpamjkhaaGreatDoor
