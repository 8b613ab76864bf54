import Derived.Test.YtpljdjmpamjkhaaGreatDoorVal
set_option linter.unusedVariables false
set_option linter.unusedSimpArgs false
set_option maxRecDepth 100000
set_option maxHeartbeats 8000000
namespace Go.Proofs.YtpljdjmpamjkhaaGreatDoor
open Go.RowKit Go.Lib
def cA(cs:List Cl):Stt:=match aZ cs with
 | []=>⟨cs.length,cs.length,false,false,nul,nul⟩
 | x::r=>⟨cs.length,(cs.length:Int)-((x::r).length:Nat),true,(gI (eK x r) ((x::r).all eT)).2,nX (gx x r) ((x::r).all eT),(gI (eK x r) ((x::r).all eT)).1⟩
theorem Stb.kept{W W':World}{p:Nat}{st:Stt}(h:Stb W p st)(hb:Below W.heap.size W W'):Stb W' p st:=by
 have hp:=h.at.1;unfold Stb at *;rw[hb.block p hp];exact h
theorem Stb.frozen{W:World}{p:Nat}{st:Stt}(h:Stb W p st)(i:Nat):W.frozen? ⟨p,i,none⟩=false:=by
 unfold Stb at h;simp[World.frozen?,h]
theorem Stb.lo{W:World}{p:Nat}{st:Stt}(h:Stb W p st)(c:Cl):Stb (((W.setCell ⟨p,4,none⟩ (.int .u8 (c.1:Int))).setCell ⟨p,5,none⟩ (.int .i64 c.2.1)).setCell ⟨p,6,none⟩ (.string (am c.2.2))) p { st with lo:=c }:=by
 unfold Stb at *;rw[cM (cM (cM h 4 _) 5 _) 6 _];rfl
theorem Stb.other{W:World}{p q:Nat}{st:Stt}(h:Stb W q st)(hn:q≠p)(i:Nat)(v:Value):Stb (W.setCell ⟨p,i,none⟩ v) q st:=by
 unfold Stb at *;rw[heap_setCell_other _ ⟨p,i,none⟩ q _ hn];exact h
theorem fF{B:Nat}{w W:World}(h:Below B w W){p:Nat}(hp:B<=p)(i:Nat)(x:Value):Below B w (W.setCell ⟨p,i,none⟩ x):=h.setCell (p:=⟨p,i,none⟩) hp _
theorem TM{B:Nat}{w W:World}(h:Below B w W){p:Nat}(hp:B<=p)(x0 x1 x2 x3 x4 x5 x6 x7 x8 x9:Value):Below B w ((((((((((W.setCell ⟨p,0,none⟩ x0).setCell ⟨p,1,none⟩ x1).setCell ⟨p,2,none⟩ x2).setCell ⟨p,3,none⟩ x3).setCell ⟨p,4,none⟩ x4).setCell ⟨p,5,none⟩ x5).setCell ⟨p,6,none⟩ x6).setCell ⟨p,7,none⟩ x7).setCell ⟨p,8,none⟩ x8).setCell ⟨p,9,none⟩ x9) :=
 fF (fF (fF (fF (fF (fF (fF (fF (fF (fF h hp _ _) hp _ _) hp _ _) hp _ _) hp _ _) hp _ _) hp _ _) hp _ _) hp _ _) hp _ _
def stZ:Stt:=⟨0,0,false,false,nul,nul⟩
theorem Aq{w:World}{v:Value}{cs:List Cl}(hs:Sv w v (aJ cs))(hf:∀ c∈cs,aT c)(hl:cs.length<=1000):Calls Tryz.prog 59 #[v] w λe w'=>e=.returned (vC (cA cs))/\Below w.heap.size w w':=by
 have HF:=ae hf;have ch:=Stb.new w stZ;have dL:=ak w (.cells #[.int .i64 0,.int .i64 0,.bool false,.bool false,.int .u8 0,.int .i64 0,.string ⟨#[]⟩,.int .u8 0,.int .i64 0,.string ⟨#[]⟩] 54);have hz0':Stb (w.alloc (.cells #[.int .i64 0,.int .i64 0,.bool false,.bool false,.int .u8 0,.int .i64 0,.string ⟨#[]⟩,.int .u8 0,.int .i64 0,.string ⟨#[]⟩] 54)) w.heap.size stZ:=ch;have lN:=ae (hs.kept dL);obtain⟨a,cap,rfl,aW,bC⟩:=hs.form1;rw[aG]at *;have WQ:=ae hz0';have ce:=ae dL;have sA:(w.alloc (.cells #[.int .i64 0,.int .i64 0,.bool false,.bool false,.int .u8 0,.int .i64 0,.string ⟨#[]⟩,.int .u8 0,.int .i64 0,.string ⟨#[]⟩] 54)).heap.size=w.heap.size+1:=jel _ _;have qG:=ae sA;clear hs hf ch dL hz0' sA;generalize hA:w.alloc (.cells #[.int .i64 0,.int .i64 0,.bool false,.bool false,.int .u8 0,.int .i64 0,.string ⟨#[]⟩,.int .u8 0,.int .i64 0,.string ⟨#[]⟩] 54)=A at *;have HL:=ae hl;clear hl;go_enter Tryz.func59,Tryz.ntmps59
 go_wp2_with fail;try rw[hA]
 refine(qm lN.o HL.o).mono ?_;rintro e w1 ⟨⟨v1,rfl,ei⟩,aH⟩;have eO:=ae ei;have aP:=ae aH;clear ei aH hA;go_wp2_with fail;refine(xD eO.o HF.o aP.o.size).mono ?_;rintro e w2 ⟨⟨v2,rfl,dR⟩,aE⟩;have aN:=ae (aP.o.trans aE);have gj:=ae dR;have QC:jgf (∀ c∈aZ cs,aT c):=ae (λc hc=>HF.o c (by unfold aZ at hc;exact(jf6.1 hc).1));obtain⟨a2,cap2,rfl,Vs,zh⟩:=dR.form1;rw[aG]at *
 have cP:jgf (cA cs=match aZ cs with
  | []=>⟨cs.length,cs.length,false,false,nul,nul⟩
  | x::r=>⟨cs.length,(cs.length:Int)-((x::r).length:Nat),true,(gI (eK x r) ((x::r).all eT)).2,nX (gx x r) ((x::r).all eT),(gI (eK x r) ((x::r).all eT)).1⟩):=ae rfl
 have HNL:jgf ((aZ cs).length<=cs.length):=ae (jfV _ _);clear aE dR eO aP lN;generalize aZ cs=ns at *;have MB:=ae (WQ.o.kept aN.o);have nH:=ae (ai ce.o aN.o);have nI:jgf (w.heap.size<w2.heap.size):=ae MB.o.at.1;clear WQ ce aN bC zh;cases ns with
 | nil =>
  simp only at cP;simp only[jeL]at *;have hSb:=Stb.new w2 ⟨cs.length,cs.length,false,false,nul,nul⟩;have hSb':Stb (w2.alloc (.cells #[.int .i64 (cs.length:Int),.int .i64 (cs.length:Int),.bool false,.bool false,.int .u8 0,.int .i64 0,.string ⟨#[]⟩,.int .u8 0,.int .i64 0,.string ⟨#[]⟩] 54)) w2.heap.size ⟨cs.length,cs.length,false,false,nul,nul⟩:=hSb;clear hSb;have HSb:=ae hSb';have hbG:=ak w2 (.cells #[.int .i64 (cs.length:Int),.int .i64 (cs.length:Int),.bool false,.bool false,.int .u8 0,.int .i64 0,.string ⟨#[]⟩,.int .u8 0,.int .i64 0,.string ⟨#[]⟩] 54);have hZG:=MB.o.kept hbG;have KW:wrap64 (cs.length:Int)=(cs.length:Int):=by have:=HL.o;unfold wrap64;omega
  obtain⟨_,⟨r0,r1,r2,r3⟩,⟨r4,r5,r6⟩,r7,r8,r9⟩:=MB.o.at;obtain⟨_,⟨q0,q1,q2,q3⟩,⟨q4,q5,q6⟩,q7,q8,q9⟩:=hZG.at;simp only[jeO]at r0 r1 r2 r3 r4 r5 r6 r7 r8 r9 q0 q1 q2 q3 q4 q5 q6 q7 q8 q9;have fz:=MB.o.frozen;have fg:=hZG.frozen;have pR:=nI.o;have yh:∀(X:World) (o:Obj) (i:Nat),w.heap.size<X.heap.size->(X.alloc o).cell? ⟨w.heap.size,i,none⟩=X.cell? ⟨w.heap.size,i,none⟩:=λX o i h=>(ak X o).cell h
  have Lm:=TM nH.o (jek _) (.int .i64 (cs.length:Int)) (.int .i64 (cs.length:Int)) (.bool false) (.bool false) (.int .u8 0) (.int .i64 0) (.string ⟨#[]⟩) (.int .u8 0) (.int .i64 0) (.string ⟨#[]⟩);have HSET:=ae Lm;clear hSb' Lm hbG hZG;go_wp2_with fail;refine bodyPost_ret (v:=.agg #[.int .i64 (cs.length:Int),.int .i64 (cs.length:Int),.bool false,.bool false,.int .u8 0,.int .i64 0,.string ⟨#[]⟩,.int .u8 0,.int .i64 0,.string ⟨#[]⟩]) (by simp[results,Tryz.results59,go_sem,yh,pR,r0,r1,r2,r3,r4,r5,r6,r7,r8,r9]) rfl ⟨?_,?_⟩
  ·rw[cP.o]
   rfl
  ·exact HSET.o.alloc HSET.o.size _
 | cons x r =>
  simp only at cP;have hmp:(0:Int)<((x::r).length:Int):=by simp only[jer];omega
  have QB:Stb (w2.alloc (.cells #[.int .i64 (cs.length:Int),.int .i64 ((cs.length:Int)-((x::r).length:Int)),.bool true,.bool false,.int .u8 0,.int .i64 0,.string ⟨#[]⟩,.int .u8 0,.int .i64 0,.string ⟨#[]⟩] 54)) w2.heap.size ⟨cs.length,(cs.length:Int)-((x::r).length:Int),true,false,nul,nul⟩:=Stb.new w2 ⟨cs.length,(cs.length:Int)-((x::r).length:Int),true,false,nul,nul⟩;have hbG:=ak w2 (.cells #[.int .i64 (cs.length:Int),.int .i64 ((cs.length:Int)-((x::r).length:Int)),.bool true,.bool false,.int .u8 0,.int .i64 0,.string ⟨#[]⟩,.int .u8 0,.int .i64 0,.string ⟨#[]⟩] 54);have HGB:=ae QB;have HBG:=ae hbG;have KW:wrap64 ((cs.length:Int)-((x::r).length:Int))=(cs.length:Int)-((x::r).length:Int):=by have:=HL.o;have:=HNL.o;unfold wrap64;omega
  have HSG:jgf (∀ U,Below w2.heap.size w2 U->Sv U (.slice a2 (x::r).length cap2) (aJ (x::r))/\Stb U w.heap.size stZ):=ae (λU h=>⟨gj.o.kept h,MB.o.kept h⟩);have Rl:jgf (aT x):=ae (QC.o x (by simp));have np:jgf (∀ c∈r,aT c):=ae (λc hc=>QC.o c (by simp[hc]));have HFMI:jgf (aT (gx x r)):=ae (mh Rl.o np.o);have HFMA:jgf (aT (eK x r)):=ae (nW Rl.o np.o);have QD:=ae (λU (h:Below w2.heap.size w2 U)=>xE (HSG.o U h).1 QC.o);have HMI:jgf (∀ U,Below w2.heap.size w2 U->Calls Tryz.prog 104 #[.slice a2 (x::r).length cap2,.func (.func 105) #[] #[]] U λe w'=>e=.returned (da (gx x r))/\Below U.heap.size U w'):=ae (λU h=>TK (HSG.o U h).1 QC.o (by simp));have HMA:jgf (∀ U,Below w2.heap.size w2 U->Calls Tryz.prog 107 #[.slice a2 (x::r).length cap2,.func (.func 105) #[] #[]] U λe w'=>e=.returned (da (eK x r))/\Below U.heap.size U w'):=ae (λU h=>TL (HSG.o U h).1 QC.o (by simp));obtain⟨cl,eX⟩:∃ cl,cl=(x::r).all eT:=⟨_,rfl⟩;rw[← eX]at cP QD;clear eX QB hbG;generalize gx x r=mi at *;generalize eK x r=ma at *;have HLO:=ae (BX HFMI.o cl);have HHI:=ae (yQ HFMA.o cl);generalize nX mi cl=lo at *;generalize gI ma cl=hi at *;obtain⟨hi,hib⟩:=hi;simp only at cP HHI;generalize hmm:(x::r).length=m at *;have Rh:0<m:=by omega
  have hmd:decide (0<m)=true:=jeB Rh;clear hmm;obtain⟨_,⟨g0,g1,g2,g3⟩,⟨g4,g5,g6⟩,g7,g8,g9⟩:=HGB.o.at;simp only[jeO]at g0 g1 g2 g3 g4 g5 g6 g7 g8 g9;go_wp2_with fail;refine(QD.o _ HBG.o).mono ?_;rintro e w3 ⟨rfl,aS⟩;have bN:=ae (ai HBG.o aS);have YY:=ae (HGB.o.kept aS);clear aS g0 g1 g2 g3 g4 g5 g6 g7 g8 g9;go_wp2_with fail;refine(HMI.o _ bN.o).mono ?_;rintro e w4 ⟨rfl,bG⟩;have cp:=ae (ai bN.o bG);have WR:=ae (YY.o.kept bG);clear bG;go_wp2_with fail;refine(HLO.o _).mono ?_;rintro e w5 ⟨rfl,bD⟩;have aQ:=ae (ai cp.o bD);have QE:=ae (WR.o.kept bD);clear bD;obtain⟨_,⟨g0,g1,g2,g3⟩,⟨g4,g5,g6⟩,g7,g8,g9⟩:=QE.o.at;simp only[jeO]at g0 g1 g2 g3 g4 g5 g6 g7 g8 g9;have fg:=QE.o.frozen;go_wp2_with fail;have dW:Below w2.heap.size w2 (((w5.setCell ⟨w2.heap.size,4,none⟩ (.int .u8 (lo.1:Int))).setCell ⟨w2.heap.size,5,none⟩ (.int .i64 lo.2.1)).setCell ⟨w2.heap.size,6,none⟩ (.string (am lo.2.2))):=fF (fF (fF aQ.o (jek _) _ _) (jek _) _ _) (jek _) _ _;have gW:=ae dW;have kS:=ae (QE.o.lo lo);clear dW fg g0 g1 g2 g3 g4 g5 g6 g7 g8 g9;refine(HMA.o _ gW.o).mono ?_;rintro e w7 ⟨rfl,iR⟩;have ir:=ae (ai gW.o iR);have HG7:=ae (kS.o.kept iR);clear iR;go_wp2_with fail;refine(HHI.o _).mono ?_;rintro e w8 ⟨rfl,kR⟩;have qD:=ae (ai ir.o kR);have HG8:=ae (HG7.o.kept kR);clear kR;obtain⟨_,⟨g0,g1,g2,g3⟩,⟨g4,g5,g6⟩,g7,g8,g9⟩:=HG8.o.at;obtain⟨_,⟨r0,r1,r2,r3⟩,⟨r4,r5,r6⟩,r7,r8,r9⟩:=(HSG.o _ qD.o).2.at;simp only[jeO]at g0 g1 g2 g3 g4 g5 g6 g7 g8 g9 r0 r1 r2 r3 r4 r5 r6 r7 r8 r9;have fg:=HG8.o.frozen;have fz:=(HSG.o _ qD.o).2.frozen;have fJ:¬ w2.heap.size=w.heap.size:=by have:=nI.o;omega
  have zq:¬ w.heap.size=w2.heap.size:=by have:=nI.o;omega
  have tS:=ae (ai nH.o qD.o);have vJ:jgf (w.heap.size<=w2.heap.size):=ae (by have:=nI.o;omega);go_wp2_with fail;refine bodyPost_ret (v:=.agg #[.int .i64 (cs.length:Int),.int .i64 ((cs.length:Int)-(m:Int)),.bool true,.bool hib,.int .u8 (lo.1:Int),.int .i64 lo.2.1,.string (am lo.2.2),.int .u8 (hi.1:Int),.int .i64 hi.2.1,.string (am hi.2.2)]) (by simp[results,Tryz.results59,go_sem,fJ,zq,r0,r1,r2,r3,r4,r5,r6,r7,r8,r9]) rfl ⟨?_,?_⟩
  ·rw[cP.o]
   rfl
  ·exact TM (fF (fF (fF (fF tS.o vJ.o _ _) vJ.o _ _) vJ.o _ _) vJ.o _ _) (jek _) _ _ _ _ _ _ _ _ _ _
theorem pe(l:List UInt8):(nb l).length=l.length:=by simp[nb]
theorem rJ{rs:List Nat}:∀ i,eQ (rs.map eu) i<=4*i
 | 0=>by simp
 | i+1=>by
  have:=rJ (rs:=rs) i;by_cases h:i<rs.length
  ·have hd:(rs.map eu).drop i=eu rs[i]::(rs.map eu).drop (i+1):=by
    rw[je1 (by simpa using h)];simp
   rw[zx hd];have:=iw rs[i];have h2:(eu rs[i]).2=(dX rs[i]).length:=rfl;omega
  ·have h1:=re (rs.map eu) i (by simp;omega)
   have h2:=re (rs.map eu) (i+1) (by simp;omega);omega
theorem JB{l a:List UInt8}(h:gT l 4=some a)(hl:l.length<=64):a.length<=64:=by
 have h0:=h;rw[xz]at h;unfold ef at h;split at h
 ·split at h
  ·obtain rfl:=Option.some.inj h;omega
  ·split at h
   ·cases h
   ·next hc _ _ =>
    have hv:=Bk hc;unfold upL at h;cases hg:il (V l) (4:Int).toNat with
    | none=>rw[hg]at h;cases h
    | some i =>
     rw[hg]at h;have hi:=(rh hg).1;simp only[jfu,Option.some.injEq]at h;subst h;have:=iw (nx ((V l).getD i (0,0)).1);have:=rJ (rs:=iU l) i;rw[← hv]at this;have h4:(4:Int).toNat=4:=rfl;simp only[jem,jeq];omega
 ·cases h
theorem Pa{x:Cl}(hf:aT x)(cl:Bool):aT (nX x cl):=by
 unfold nX;by_cases h:x.1=3/\cl=false
 ·rw[jei h]
  exact Or.inr (Or.inr (Or.inr ⟨[],rfl,by simp,λx hx=>by simp at hx⟩))
 ·rw[jeh h]
  have he:nb (bZ (lb (am ([]:List Nat))) 4)=[]:=by
   have:lb (am ([]:List Nat))=[]:=rfl;rw[this];simp[bZ,nb]
  rcases hf with rfl | ⟨n,rfl,hn⟩ | ⟨n,rfl,hn⟩ | ⟨s,rfl,hl,hs⟩
  ·refine Or.inl ?_
   show ((0:Nat),(0:Int),nb (bZ (lb (am ([]:List Nat))) 4))=nul
   rw[he];rfl
  ·refine Or.inr (Or.inl ⟨n,?_,hn⟩)
   show ((1:Nat),n,nb (bZ (lb (am ([]:List Nat))) 4))=_
   rw[he]
  ·refine Or.inr (Or.inr (Or.inl ⟨n,?_,hn⟩))
   show ((2:Nat),(n:Int),nb (bZ (lb (am ([]:List Nat))) 4))=_
   rw[he]
  ·refine Or.inr (Or.inr (Or.inr ⟨_,rfl,?_,ZR _⟩))
   rw[pe];show (bZ (lb (am s)) 4).length<=64
   have:=qf (lb (am s)) 4;have h2:(lb (am s)).length=s.length:=by rw[cL,bi]
   omega
theorem JC{x:Cl}(hf:aT x)(cl:Bool):aT (gI x cl).1:=by
 unfold gI;by_cases h:x.1=3
 ·rw[jei h]
  cases ha:gT (lb (am x.2.2)) 4 with
  | none=>exact Or.inl rfl
  | some a =>
   simp only;cases cl
   ·exact Or.inl rfl
   ·refine Or.inr (Or.inr (Or.inr ⟨_,rfl,?_,ZR _⟩))
    rw[pe];refine JB ha ?_;rw[cL];exact hf.short
 ·rw[jeh h]
  exact hf
theorem kJ{cs:List Cl}(hf:∀ c∈cs,aT c):aT (cA cs).lo/\aT (cA cs).hi:=by
 have MC:∀ c∈aZ cs,aT c:=λc hc=>hf c (by unfold aZ at hc;exact(jf6.1 hc).1)
 unfold cA;cases hn:aZ cs with
 | nil=>exact⟨Or.inl rfl,Or.inl rfl⟩
 | cons y r =>
  rw[hn]at MC;have hy:=MC y (by simp);have hr:∀ c∈r,aT c:=λc hc=>MC c (by simp[hc])
  exact⟨Pa (mh hy hr) _,JC (nW hy hr) _⟩
def bst(l:List Int):Nat->List Nat
 | 0=>[]
 | k+1=>jL l k
def EJ(l:List Int):List Nat:=if l.length<=256 then jL l 4 else []
theorem cH(w:World)(x:Nat):aD (w.alloc (.cells #[.int .u8 (x:Int)] 5)) w.heap.size (.slice (some ⟨w.heap.size,0,none⟩) 1 1) [x] :=
 jfv w #[.int .u8 (x:Int)] 1 (jek _) (by unfold maxLen;omega) rfl
theorem Pb(l:List Int):bst l 1=[0]++gB l:=rfl
theorem Pc(l:List Int):bst l 2=if (iP 0 l).length+1<(bst l 1).length then [1]++iP 0 l else bst l 1:=rfl
theorem Pd(l:List Int):bst l 3=if (iA l).length+1<(bst l 2).length then [2]++iA l else bst l 2:=rfl
theorem Pe(l:List Int):bst l 4=if (qc l).length+1<(bst l 3).length then [3]++qc l else bst l 3:=rfl
theorem Pf(l:List Int):bst l 5=if (lZ l).length+1<(bst l 4).length then [4]++lZ l else bst l 4:=rfl
theorem TN{w:World}{v:Value}{l:List Int}(hs:Sv w v (aL l))(hl:l.length<=256)(hi:Is l) :
  Calls Tryz.prog 170 #[v] w λe w'=>(∃ v',e=.returned (.tuple #[v',.bool true])/\aD w' w.heap.size v' (jL l 4))/\Below w.heap.size w w':=by
 have HS:=ae hs;have HI:=ae hi;obtain⟨a,cap,rfl,aW,bC⟩:=hs.form;have vZ:¬ (l.length:Int) > 256:=by omega
 have qG:jgf (∀ k,(bst l k).length<=5131):=by
  intro k;cases k with
  | zero=>simp[bst]
  | succ k =>
   obtain⟨c,_,e⟩:=jx l k;rw[bst,e];have:=(eI c hi hl).1;simp
   omega
 have i0:∀ w,(Instr.index 246 (.agg #[.func (.func 226) #[] #[],.func (.func 227) #[] #[],.func (.func 228) #[] #[],.func (.func 229) #[] #[],.func (.func 230) #[] #[]]) (.int .i64 0)).run Tryz.prog w=.ok (.func (.func 226) #[] #[]) w:=λ_=>by kernel_rfl
 have hz_0:=(eI 0 hi hl).1;have HP0:jgf (∀ W,Sv W (.slice a l.length cap) (aL l)->Calls Tryz.prog 226 #[.slice a l.length cap] W (dA W (gB l))):=λW h=>uj h hl HI.o
 have i1:∀ w,(Instr.index 246 (.agg #[.func (.func 226) #[] #[],.func (.func 227) #[] #[],.func (.func 228) #[] #[],.func (.func 229) #[] #[],.func (.func 230) #[] #[]]) (.int .i64 1)).run Tryz.prog w=.ok (.func (.func 227) #[] #[]) w:=λ_=>by kernel_rfl
 have hz_1:=(eI 1 hi hl).1;have Dj:jgf (∀ W,Sv W (.slice a l.length cap) (aL l)->Calls Tryz.prog 227 #[.slice a l.length cap] W (dA W (iP 0 l))):=λW h=>rC h hl HI.o
 have i2:∀ w,(Instr.index 246 (.agg #[.func (.func 226) #[] #[],.func (.func 227) #[] #[],.func (.func 228) #[] #[],.func (.func 229) #[] #[],.func (.func 230) #[] #[]]) (.int .i64 2)).run Tryz.prog w=.ok (.func (.func 228) #[] #[]) w:=λ_=>by kernel_rfl
 have hz_2:=(eI 2 hi hl).1;have Gj:jgf (∀ W,Sv W (.slice a l.length cap) (aL l)->Calls Tryz.prog 228 #[.slice a l.length cap] W (dA W (iA l))):=λW h=>um h hl HI.o
 have i3:∀ w,(Instr.index 246 (.agg #[.func (.func 226) #[] #[],.func (.func 227) #[] #[],.func (.func 228) #[] #[],.func (.func 229) #[] #[],.func (.func 230) #[] #[]]) (.int .i64 3)).run Tryz.prog w=.ok (.func (.func 229) #[] #[]) w:=λ_=>by kernel_rfl
 have hz_3:=(eI 3 hi hl).1;have Ln:jgf (∀ W,Sv W (.slice a l.length cap) (aL l)->Calls Tryz.prog 229 #[.slice a l.length cap] W (dA W (qc l))):=λW h=>pH h hl HI.o
 have i4:∀ w,(Instr.index 246 (.agg #[.func (.func 226) #[] #[],.func (.func 227) #[] #[],.func (.func 228) #[] #[],.func (.func 229) #[] #[],.func (.func 230) #[] #[]]) (.int .i64 4)).run Tryz.prog w=.ok (.func (.func 230) #[] #[]) w:=λ_=>by kernel_rfl
 have hz_4:=(eI 4 hi hl).1;have HP4:jgf (∀ W,Sv W (.slice a l.length cap) (aL l)->Calls Tryz.prog 230 #[.slice a l.length cap] W (dA W (lZ l))):=λW h=>nU h hl HI.o
 clear hs aW bC hi;go_enter Tryz.func170,Tryz.ntmps170
 go_wp2_with fail;refine(gg _).mono ?_;rintro e w1 ⟨rfl,aH⟩;have aP:=ae aH;have cK:=aH.size;clear aH;go_wp2_with fail;go_loopw [4,12] (λb i wr=>∃ k:Nat,k<=5/\i=.int .i64 (k:Int)/\aD wr w.heap.size b (bst l k)/\Below w.heap.size w wr) (λ_ i _=>5-(intOf i).toNat)
 case atStart=>exact⟨0,by omega,rfl,aD.nil _ _,aP.o⟩
 case round =>
  obtain⟨k,hk,rfl,aA,az⟩:=hrel;have HO:=ae aA;have HB:=ae az;have bH:=az.size;obtain⟨ab,cb,rfl⟩:=aA.len;have fK:=qG.o k;clear aA az;obtain rfl | rfl | rfl | rfl | rfl | rfl:k=0∨k=1∨k=2∨k=3∨k=4∨k=5:=by omega
  ·have HT:=ae (Pb l)
   have WS:=ae (HS.o.kept (HB.o.alloc bH (.cells #[.int .u8 0] 5)));have nz:=ae (cH wr 0);have fx:=ae ((jej wr.heap.size wr).alloc (jek _) (.cells #[.int .u8 0] 5));have AW:(gB l).length<=5130:=hz_0;clear hz_0 hz_1 hz_2 hz_3 hz_4;generalize bst l 0=B0 at *;generalize gB l=EC at *;go_wp2_with fail;refine(HP0.o _ WS.o).mono ?_;rintro e w3 ⟨⟨v3,rfl,fW⟩,aS⟩;have dd:=ae fW;have VG:=ae (nz.o.kept aS);have bN:=ae (fx.o.trans (aS.mono (by simp)));have iN:=aS.size;rw[jel]at iN;clear fW aS;go_wp2_with (first | (at_builtin;refine ax rfl _ _ rfl wr.heap.size _ _ [0] EC rfl VG.o rfl dd.o.sv ?c1 ?c2 ?_))
   case c1=>simp;omega
   case c2=>omega
   intro v4 w4 o4 b4;have eY:=ae (o4.low bH);have cp:=ae (bN.o.trans b4);have fX:=ae (HB.o.trans (cp.o.mono bH));have AV:=ae (HO.o.kept cp.o);obtain⟨a4,c4,rfl⟩:=o4.len;clear o4 b4;go_wp2_with fail;go_roundw
   case rel=>exact⟨1,by omega,by go_num,by rw[HT.o];exact eY.o,fX.o⟩
   case measure=>simp[intOf]
  ·have HT:=ae (Pc l)
   have WS:=ae (HS.o.kept (HB.o.alloc bH (.cells #[.int .u8 1] 5)));have nz:=ae (cH wr 1);have fx:=ae ((jej wr.heap.size wr).alloc (jek _) (.cells #[.int .u8 1] 5));have AW:(iP 0 l).length<=5130:=hz_1;clear hz_0 hz_1 hz_2 hz_3 hz_4;generalize bst l 1=B0 at *;generalize iP 0 l=EC at *;go_wp2_with fail;refine(Dj.o _ WS.o).mono ?_;rintro e w3 ⟨⟨v3,rfl,fW⟩,aS⟩;have dd:=ae fW;have VG:=ae (nz.o.kept aS);have bN:=ae (fx.o.trans (aS.mono (by simp)));have iN:=aS.size;rw[jel]at iN;clear fW aS;go_wp2_with (first | (at_builtin;refine ax rfl _ _ rfl wr.heap.size _ _ [1] EC rfl VG.o rfl dd.o.sv ?c1 ?c2 ?_))
   case c1=>simp;omega
   case c2=>omega
   intro v4 w4 o4 b4;have eY:=ae (o4.low bH);have cp:=ae (bN.o.trans b4);have fX:=ae (HB.o.trans (cp.o.mono bH));have AV:=ae (HO.o.kept cp.o);obtain⟨a4,c4,rfl⟩:=o4.len;clear o4 b4;by_cases aB:EC.length+1<B0.length
   ·rw[jei aB]at HT
    have CY:(EC.length:Int)+1<(B0.length:Int):=(by omega);clear aB;go_wp2_with fail;go_roundw
    case rel=>exact⟨2,by omega,by go_num,by rw[HT.o];exact eY.o,fX.o⟩
    case measure=>simp[intOf]
   ·rw[jeh aB]at HT
    have CY:¬ (EC.length:Int)+1<(B0.length:Int):=(by omega);clear aB;go_wp2_with fail;go_roundw
    case rel=>exact⟨2,by omega,by go_num,by rw[HT.o];exact AV.o,fX.o⟩
    case measure=>simp[intOf]
  ·have HT:=ae (Pd l)
   have WS:=ae (HS.o.kept (HB.o.alloc bH (.cells #[.int .u8 2] 5)));have nz:=ae (cH wr 2);have fx:=ae ((jej wr.heap.size wr).alloc (jek _) (.cells #[.int .u8 2] 5));have AW:(iA l).length<=5130:=hz_2;clear hz_0 hz_1 hz_2 hz_3 hz_4;generalize bst l 2=B0 at *;generalize iA l=EC at *;go_wp2_with fail;refine(Gj.o _ WS.o).mono ?_;rintro e w3 ⟨⟨v3,rfl,fW⟩,aS⟩;have dd:=ae fW;have VG:=ae (nz.o.kept aS);have bN:=ae (fx.o.trans (aS.mono (by simp)));have iN:=aS.size;rw[jel]at iN;clear fW aS;go_wp2_with (first | (at_builtin;refine ax rfl _ _ rfl wr.heap.size _ _ [2] EC rfl VG.o rfl dd.o.sv ?c1 ?c2 ?_))
   case c1=>simp;omega
   case c2=>omega
   intro v4 w4 o4 b4;have eY:=ae (o4.low bH);have cp:=ae (bN.o.trans b4);have fX:=ae (HB.o.trans (cp.o.mono bH));have AV:=ae (HO.o.kept cp.o);obtain⟨a4,c4,rfl⟩:=o4.len;clear o4 b4;by_cases aB:EC.length+1<B0.length
   ·rw[jei aB]at HT
    have CY:(EC.length:Int)+1<(B0.length:Int):=(by omega);clear aB;go_wp2_with fail;go_roundw
    case rel=>exact⟨3,by omega,by go_num,by rw[HT.o];exact eY.o,fX.o⟩
    case measure=>simp[intOf]
   ·rw[jeh aB]at HT
    have CY:¬ (EC.length:Int)+1<(B0.length:Int):=(by omega);clear aB;go_wp2_with fail;go_roundw
    case rel=>exact⟨3,by omega,by go_num,by rw[HT.o];exact AV.o,fX.o⟩
    case measure=>simp[intOf]
  ·have HT:=ae (Pe l)
   have WS:=ae (HS.o.kept (HB.o.alloc bH (.cells #[.int .u8 3] 5)));have nz:=ae (cH wr 3);have fx:=ae ((jej wr.heap.size wr).alloc (jek _) (.cells #[.int .u8 3] 5));have AW:(qc l).length<=5130:=hz_3;clear hz_0 hz_1 hz_2 hz_3 hz_4;generalize bst l 3=B0 at *;generalize qc l=EC at *;go_wp2_with fail;refine(Ln.o _ WS.o).mono ?_;rintro e w3 ⟨⟨v3,rfl,fW⟩,aS⟩;have dd:=ae fW;have VG:=ae (nz.o.kept aS);have bN:=ae (fx.o.trans (aS.mono (by simp)));have iN:=aS.size;rw[jel]at iN;clear fW aS;go_wp2_with (first | (at_builtin;refine ax rfl _ _ rfl wr.heap.size _ _ [3] EC rfl VG.o rfl dd.o.sv ?c1 ?c2 ?_))
   case c1=>simp;omega
   case c2=>omega
   intro v4 w4 o4 b4;have eY:=ae (o4.low bH);have cp:=ae (bN.o.trans b4);have fX:=ae (HB.o.trans (cp.o.mono bH));have AV:=ae (HO.o.kept cp.o);obtain⟨a4,c4,rfl⟩:=o4.len;clear o4 b4;by_cases aB:EC.length+1<B0.length
   ·rw[jei aB]at HT
    have CY:(EC.length:Int)+1<(B0.length:Int):=(by omega);clear aB;go_wp2_with fail;go_roundw
    case rel=>exact⟨4,by omega,by go_num,by rw[HT.o];exact eY.o,fX.o⟩
    case measure=>simp[intOf]
   ·rw[jeh aB]at HT
    have CY:¬ (EC.length:Int)+1<(B0.length:Int):=(by omega);clear aB;go_wp2_with fail;go_roundw
    case rel=>exact⟨4,by omega,by go_num,by rw[HT.o];exact AV.o,fX.o⟩
    case measure=>simp[intOf]
  ·have HT:=ae (Pf l)
   have WS:=ae (HS.o.kept (HB.o.alloc bH (.cells #[.int .u8 4] 5)));have nz:=ae (cH wr 4);have fx:=ae ((jej wr.heap.size wr).alloc (jek _) (.cells #[.int .u8 4] 5));have AW:(lZ l).length<=5130:=hz_4;clear hz_0 hz_1 hz_2 hz_3 hz_4;generalize bst l 4=B0 at *;generalize lZ l=EC at *;go_wp2_with fail;refine(HP4.o _ WS.o).mono ?_;rintro e w3 ⟨⟨v3,rfl,fW⟩,aS⟩;have dd:=ae fW;have VG:=ae (nz.o.kept aS);have bN:=ae (fx.o.trans (aS.mono (by simp)));have iN:=aS.size;rw[jel]at iN;clear fW aS;go_wp2_with (first | (at_builtin;refine ax rfl _ _ rfl wr.heap.size _ _ [4] EC rfl VG.o rfl dd.o.sv ?c1 ?c2 ?_))
   case c1=>simp;omega
   case c2=>omega
   intro v4 w4 o4 b4;have eY:=ae (o4.low bH);have cp:=ae (bN.o.trans b4);have fX:=ae (HB.o.trans (cp.o.mono bH));have AV:=ae (HO.o.kept cp.o);obtain⟨a4,c4,rfl⟩:=o4.len;clear o4 b4;by_cases aB:EC.length+1<B0.length
   ·rw[jei aB]at HT
    have CY:(EC.length:Int)+1<(B0.length:Int):=(by omega);clear aB;go_wp2_with fail;go_roundw
    case rel=>exact⟨5,by omega,by go_num,by rw[HT.o];exact eY.o,fX.o⟩
    case measure=>simp[intOf]
   ·rw[jeh aB]at HT
    have CY:¬ (EC.length:Int)+1<(B0.length:Int):=(by omega);clear aB;go_wp2_with fail;go_roundw
    case rel=>exact⟨5,by omega,by go_num,by rw[HT.o];exact AV.o,fX.o⟩
    case measure=>simp[intOf]
  ·go_wp2_with fail
   go_ret2
   exact⟨⟨_,rfl,HO.o⟩,HB.o⟩
theorem XV{w:World}{v:Value}{l:List Int}(hs:Sv w v (aL l))(hl:¬ l.length<=256) :
  Calls Tryz.prog 170 #[v] w λe w'=>(∃ v',e=.returned (.tuple #[v',.bool false])/\aD w' w.heap.size v' [])/\Below w.heap.size w w':=by
 obtain⟨a,cap,rfl,aW,bC⟩:=hs.form;have hm:l.length<=9223372036854775807:=by unfold maxLen at bC;omega
 have vZ:(l.length:Int) > 256:=by omega
 clear hs aW bC hl;go_enter Tryz.func170,Tryz.ntmps170
 go_wp2_with fail;go_ret2
 exact⟨⟨_,rfl,aD.nil _ _⟩,jej _ _⟩
theorem TO{w:World}{v:Value}{l:List Int}(hs:Sv w v (aL l))(hi:Is l) :
  Calls Tryz.prog 170 #[v] w λe w'=>(∃ v',e=.returned (.tuple #[v',.bool (decide (l.length<=256))])/\aD w' w.heap.size v' (EJ l))/\Below w.heap.size w w':=by
 unfold EJ;by_cases h:l.length<=256
 ·rw[jeB h,jei h]
  exact TN hs h hi
 ·rw[jeu h,jeh h]
  exact XV hs h
def cC(l:List (List Nat)):List Value:=l.map txt
theorem dP(l:List (List Nat)):(cC l).length=l.length:=jen _
theorem pN(a b:List (List Nat)):cC (a++b)=cC a++cC b:=jeE
theorem cO{l:List (List Nat)}{j:Nat}(h:j<l.length):(cC l)[j]?=some (txt l[j]):=by simp[cC,h]
def eL(W:World)(B:Nat)(v:Value)(l:List (List Nat)):Prop:=W.ownsRow B 9 1 v l.length (cC l)
theorem eL.nil(W:World)(B:Nat):eL W B (.slice none 0 0) []:=jfb _ _ _ _
theorem eL.kept{w w':World}{B:Nat}{v:Value}{l:List (List Nat)}(h:eL w B v l)(hb:Below w.heap.size w w'):eL w' B v l:=bJ h hb
theorem eL.sv{W:World}{B:Nat}{v:Value}{l:List (List Nat)}(h:eL W B v l):Sv W v (cC l):=Sv.of_own h
theorem ZS:(Tryz.prog.info? 9).map (λi=>(i.zero,i.size,i.bytes))=some (some (.string ⟨#[]⟩),1,16):=by kernel_rfl
theorem cd{w:World}{ops:Array Oper}{rest:List Oper}{o:Oper}{a:Act}{Q:Exit->Act->World->Prop}(dY:o.guard=none)(s x:Operand)
  (ho:o.op=.call { callee:=.builtin .append,args:=#[s,x],argTypes:=#[144,144] })
  (base:Nat) (v:Value) (g:Nat) (z:List Nat) (l0:List (List Nat)) (hs:a.eval s=v) (aA:eL w base v l0) (hx:a.eval x=.slice (some ⟨g,0,none⟩) 1 1) (hc:w.cell? ⟨g,0,none⟩=some (txt z))
  (hbytes:l0.length<=100000) (aI:base<=w.heap.size)
  (h:∀ v' w',eL w' base v' (l0++[z])->Below base w w'->wpList Tryz.prog ops Q rest (a.put o.dst v') w') :
  wpList Tryz.prog ops Q (o::rest) a w:=by
 obtain⟨i0,hi,ch,hz1',bv⟩:=jeD ZS;unfold eL at *
 refine jeY (w:=w) dY s x 144 ho base 9 i0 (.string ⟨#[]⟩) 1 16 Tryz.underlying144 hi ch hz1' bv rfl (by decide) v l0.length (cC l0) hs aA ⟨g,0,none⟩ 1 1 [txt z] hx rfl ?_ (λu hu=>by
  have:u=txt z:=by simpa using hu
  subst this;rfl) (by unfold maxLen;omega) (by omega) aI ?_
 ·intro j u hu
  rw[mC];cases j with
  | zero =>
   simp only[List.getElem?_cons_zero,Option.some.injEq]at hu;rw[← hu];exact hc
  | succ j=>simp at hu
 ·intro v' w' o1 g1 _ _
  refine h v' w' ?_ ((jej base w).grown g1 aI (λk hk=>(aA.lt k hk).1));rw[pN,jem];exact o1
theorem kp{l:List Int}(hl:l.length<=256):EJ l=cV l:=jei hl
theorem tv{w:World}{v:Value}{l:List Int}(hs:Sv w v (aL l))(hl:l.length<=256)(hi:Is l):Calls Tryz.prog 126 #[v] w (dA w (cV l)):=by
 have HB:=ae (TO hs hi);rw[kp hl]at HB;clear hs hi;generalize cV l=bs at *;go_enter Tryz.func126,Tryz.ntmps126
 go_wp2_with fail;refine HB.o.mono ?_;rintro e w1 ⟨⟨v1,rfl,ei⟩,aH⟩;have eO:=ae ei;have aP:=ae aH;clear ei aH;go_wp2_with fail;go_ret
 exact⟨⟨_,rfl,eO.o⟩,aP.o⟩
theorem Ar{w:World}{v:Value}{l:List Nat}(hs:Sv w v (aF .u64 l))(h2:∀ x∈l,x<2):Calls Tryz.prog 128 #[v] w (dA w (bm l 1)):=by
 have HB:=ae (zU hs.sx (λx hx=>by have:=h2 x hx;omega) 1);clear hs h2;generalize bm l 1=bs at *;generalize can l 1=bb at *;go_enter Tryz.func128,Tryz.ntmps128
 go_wp2_with fail;refine HB.o.mono ?_;rintro e w1 ⟨v1,rfl,ei,aH⟩;have eO:=ae ei;have aP:=ae aH;clear ei aH;go_wp2_with fail;go_ret
 exact⟨⟨_,rfl,eO.o⟩,aP.o⟩
theorem xF(b:Bool)(w:World):Calls Tryz.prog 169 #[.bool b] w λe w'=>e=.returned (.int .u64 (if b then 1 else 0))/\w'=w:=by
 cases b
 all_goals
  go_enter Tryz.func169,Tryz.ntmps169
  go_wp2;go_ret
  exact⟨rfl,rfl⟩
theorem js(k:Nat)(w:World):Calls Tryz.prog 167 #[.int .u8 (k:Int)] w λe w'=>e=.returned (.bool (decide (1<=k/\k<=3)))/\w'=w:=by
 by_cases h1:((k:Int)==1)=true
 ·have hk:k=1:=by have:(k:Int)=1:=(by simpa using h1);omega
  subst hk;go_enter Tryz.func167,Tryz.ntmps167
  go_wp2;go_ret
  exact⟨rfl,rfl⟩
 ·by_cases h2:((k:Int)==2)=true
  ·have hk:k=2:=by have:(k:Int)=2:=(by simpa using h2);omega
   subst hk;go_enter Tryz.func167,Tryz.ntmps167
   go_wp2;go_ret
   exact⟨rfl,rfl⟩
  ·by_cases h3:((k:Int)==3)=true
   ·have hk:k=3:=by have:(k:Int)=3:=(by simpa using h3);omega
    subst hk;go_enter Tryz.func167,Tryz.ntmps167
    go_wp2;go_ret
    exact⟨rfl,rfl⟩
   ·have h1':((k:Int)==1)=false:=by simpa using h1
    have h2':((k:Int)==2)=false:=by simpa using h2
    have h3':((k:Int)==3)=false:=by simpa using h3
    have HN:jgf (decide (1<=k/\k<=3)=false):=ae (by
     have a1:(k:Int)≠1:=by simpa using h1
     have a2:(k:Int)≠2:=by simpa using h2
     have a3:(k:Int)≠3:=by simpa using h3
     exact jeu (by omega))
    rw[HN.o];clear h1 h2 h3;go_enter Tryz.func167,Tryz.ntmps167
    go_wp2;go_ret
    exact⟨rfl,rfl⟩
theorem gD.fine{k:Nat}{c:Nat×Int×List Nat}(h:gD k c):aT c:=by
 rcases h with h | ⟨_,h⟩ | ⟨_,h⟩ | ⟨_,h⟩
 ·exact Or.inl h
 ·exact Or.inr (Or.inl h)
 ·exact Or.inr (Or.inr (Or.inl h))
 ·exact Or.inr (Or.inr (Or.inr h))
theorem aT.cellk{k:Nat}{c:Nat×Int×List Nat}(h:aT c)(hk:c.1=0∨c.1=k):gD k c:=by
 rcases h with h | ⟨n,rfl,h⟩ | ⟨n,rfl,h⟩ | ⟨n,rfl,h⟩
 ·exact Or.inl h
 ·have:k=1:=by simp at hk;omega
  exact Or.inr (Or.inl ⟨this,n,rfl,h⟩)
 ·have:k=2:=by simp at hk;omega
  exact Or.inr (Or.inr (Or.inl ⟨this,n,rfl,h⟩))
 ·have:k=3:=by simp at hk;omega
  exact Or.inr (Or.inr (Or.inr ⟨this,n,rfl,h⟩))
theorem fR{l:List (Nat×Int×List Nat)}{j:Nat}(h:j<l.length):bV (l.take (j+1))=bV (l.take j)++(if l[j].1=0 then [] else [l[j]]):=by
 unfold bV;rw[jeA h,jfX];congr 1
 by_cases h0:l[j].1=0
 ·simp[h0]
 ·simp[h0]
theorem jt(l:List (Nat×Int×List Nat))(j:Nat):(bV (l.take j)).length<=l.length:=by
 have:=ik (l.take j);rw[jeq]at this;omega
theorem JD{w:World}{v:Value}{l:List (Nat×Int×List Nat)}(hs:Sv w v (aJ l))(hl:l.length<=256)(hc:∀ c∈l,gD 1 c) :
  Calls Tryz.prog 127 #[v] w λe w'=>(∃ v',e=.returned v'/\bF w' w.heap.size v' ((bV l).map λc=>c.2.1))/\Below w.heap.size w w':=by
 have HS:=ae hs;have HC:=ae hc;obtain⟨a,cap,rfl,aW,bC⟩:=hs.form1;rw[aG]at *;have t1:=Bp;have t2:=GW;have hcm':cap<=9223372036854775807:=by unfold maxLen at bC;omega
 clear hs hc bC;go_enter Tryz.func127,Tryz.ntmps127
 go_wp2_with fail;go_loopw [3,10] (λo i wr=>∃ j:Nat,j<=l.length/\i=.int .i64 (j:Int)/\bF wr w.heap.size o ((bV (l.take j)).map λc=>c.2.1)/\Below w.heap.size w wr) (λ_ i _=>l.length-(intOf i).toNat)
 case atStart=>exact⟨0,by omega,rfl,bF.nil _ _,jej _ _⟩
 case round =>
  obtain⟨j,hj,rfl,aA,az⟩:=hrel;have HO:=ae aA;have HB:=ae az;have bH:=az.size;clear aA az;by_cases aB:j<l.length
  ·obtain⟨b,off,rfl,hb,bn⟩:=HS.o.at1 (cQ aB)
   have hcell':=(HB.o.cell (p:=⟨b,off+j,none⟩) hb).trans bn;have HT:=ae (fR aB);have bR:=jt l j;have dN:=HC.o l[j] (jeo aB);have hlt':(j:Int)<(l.length:Int):=(by omega);clear bn;generalize l[j]=c at *;rcases dN with rfl | ⟨_,n,rfl,hn⟩ | ⟨hk,_⟩ | ⟨hk,_⟩
   ·simp only[nul,da,if_true]at hcell'
    have HT':jgf (bV (l.take (j+1))=bV (l.take j)):=ae (by
     have:=HT.o;simpa [nul]using this)
    clear HT;go_wp2_with fail;go_roundw
    case rel=>exact⟨j+1,by omega,by go_num,by rw[HT'.o];exact HO.o,HB.o⟩
    case measure=>simp[intOf];omega
   ·simp only[da]at hcell'
    have HT':jgf ((bV (l.take (j+1))).map (λc=>c.2.1)=((bV (l.take j)).map λc=>c.2.1)++[n]):=ae (by
     have:=HT.o;simp only[show (1:Nat)≠0 from by omega,if_false]at this;rw[this,jeE];rfl)
    have hlen':((bV (l.take j)).map λc=>c.2.1).length<=100000:=by rw[jen];omega
    clear HT;generalize ((bV (l.take j)).map λc=>c.2.1)=L at *;go_wp2_with (first | (at_builtin;refine aY rfl _ _ rfl w.heap.size _ _ n L rfl (HO.o.kept (ak _ _)) rfl (aK _ _ _) hlen' ?c2 ?_))
    case c2=>first | omega | (rw[jel];omega)
    intro v' w2 o2 b2;have dz:=ae o2;have aN:=ae ((HB.o.alloc bH _).trans b2);clear o2 b2;go_wp2_with fail;go_roundw
    case rel=>exact⟨j+1,by omega,by go_num,by rw[HT'.o];exact dz.o,aN.o⟩
    case measure=>simp[intOf];omega
   ·omega
   ·omega
  ·have:j=l.length:=by omega
   subst this;have gi:¬ ((l.length:Nat):Int)<(l.length:Int):=(by omega);rw[jes]at HO;go_wp2_with fail;go_ret
   exact⟨⟨_,rfl,HO.o⟩,HB.o⟩
theorem JE{w:World}{v:Value}{l:List (Nat×Int×List Nat)}(hs:Sv w v (aJ l))(hl:l.length<=256)(hc:∀ c∈l,gD 3 c) :
  Calls Tryz.prog 131 #[v] w λe w'=>(∃ v',e=.returned v'/\eL w' w.heap.size v' ((bV l).map λc=>c.2.2))/\Below w.heap.size w w':=by
 have HS:=ae hs;have HC:=ae hc;obtain⟨a,cap,rfl,aW,bC⟩:=hs.form1;rw[aG]at *;have t1:=Br;have t2:=GY;have hcm':cap<=9223372036854775807:=by unfold maxLen at bC;omega
 clear hs hc bC;go_enter Tryz.func131,Tryz.ntmps131
 go_wp2_with fail;go_loopw [3,10] (λo i wr=>∃ j:Nat,j<=l.length/\i=.int .i64 (j:Int)/\eL wr w.heap.size o ((bV (l.take j)).map λc=>c.2.2)/\Below w.heap.size w wr) (λ_ i _=>l.length-(intOf i).toNat)
 case atStart=>exact⟨0,by omega,rfl,eL.nil _ _,jej _ _⟩
 case round =>
  obtain⟨j,hj,rfl,aA,az⟩:=hrel;have HO:=ae aA;have HB:=ae az;have bH:=az.size;clear aA az;by_cases aB:j<l.length
  ·obtain⟨b,off,rfl,hb,bn⟩:=HS.o.at1 (cQ aB)
   have hcell':=(HB.o.cell (p:=⟨b,off+j,none⟩) hb).trans bn;have HT:=ae (fR aB);have bR:=jt l j;have dN:=HC.o l[j] (jeo aB);have hlt':(j:Int)<(l.length:Int):=(by omega);clear bn;generalize l[j]=c at *;rcases dN with rfl | ⟨hk,_⟩ | ⟨hk,_⟩ | ⟨_,n,rfl,hn⟩
   ·simp only[nul,da,if_true]at hcell'
    have HT':jgf (bV (l.take (j+1))=bV (l.take j)):=ae (by
     have:=HT.o;simpa [nul]using this)
    clear HT;go_wp2_with fail;go_roundw
    case rel=>exact⟨j+1,by omega,by go_num,by rw[HT'.o];exact HO.o,HB.o⟩
    case measure=>simp[intOf];omega
   ·omega
   ·omega
   ·simp only[da,dM,show (3:Nat)≠0 from by omega,show (3:Nat)≠1 from by omega,show (3:Nat)≠2 from by omega,if_false]at hcell'
    have HT':jgf ((bV (l.take (j+1))).map (λc=>c.2.2)=((bV (l.take j)).map λc=>c.2.2)++[n]):=ae (by
     have:=HT.o;simp only[show (3:Nat)≠0 from by omega,if_false]at this;rw[this,jeE];rfl)
    have hlen':((bV (l.take j)).map λc=>c.2.2).length<=100000:=by rw[jen];omega
    clear HT;generalize ((bV (l.take j)).map λc=>c.2.2)=L at *;go_wp2_with (first | (at_builtin;refine cd rfl _ _ rfl w.heap.size _ _ n L rfl (HO.o.kept (ak _ _)) rfl (aK _ _ _) hlen' ?c2 ?_))
    case c2=>first | omega | (rw[jel];omega)
    intro v' w2 o2 b2;have dz:=ae o2;have aN:=ae ((HB.o.alloc bH _).trans b2);clear o2 b2;go_wp2_with fail;go_roundw
    case rel=>exact⟨j+1,by omega,by go_num,by rw[HT'.o];exact dz.o,aN.o⟩
    case measure=>simp[intOf];omega
  ·have:j=l.length:=by omega
   subst this;have gi:¬ ((l.length:Nat):Int)<(l.length:Int):=(by omega);rw[jes]at HO;go_wp2_with fail;go_ret
   exact⟨⟨_,rfl,HO.o⟩,HB.o⟩
theorem JF{w:World}{v:Value}{l:List (Nat×Int×List Nat)}(hs:Sv w v (aJ l))(hl:l.length<=256)(hc:∀ c∈l,gD 2 c) :
  Calls Tryz.prog 129 #[v] w λe w'=>(∃ v',e=.returned v'/\dJ w' w.heap.size v' ((bV l).map λc=>c.2.1.toNat))/\Below w.heap.size w w':=by
 have HS:=ae hs;have HC:=ae hc;obtain⟨a,cap,rfl,aW,bC⟩:=hs.form1;rw[aG]at *;have t1:=Bq;have t2:=GX;have hcm':cap<=9223372036854775807:=by unfold maxLen at bC;omega
 clear hs hc bC;go_enter Tryz.func129,Tryz.ntmps129
 go_wp2_with fail;go_loopw [3,10] (λo i wr=>∃ j:Nat,j<=l.length/\i=.int .i64 (j:Int)/\dJ wr w.heap.size o ((bV (l.take j)).map λc=>c.2.1.toNat)/\Below w.heap.size w wr) (λ_ i _=>l.length-(intOf i).toNat)
 case atStart=>exact⟨0,by omega,rfl,dJ.nil _ _,jej _ _⟩
 case round =>
  obtain⟨j,hj,rfl,aA,az⟩:=hrel;have HO:=ae aA;have HB:=ae az;have bH:=az.size;clear aA az;by_cases aB:j<l.length
  ·obtain⟨b,off,rfl,hb,bn⟩:=HS.o.at1 (cQ aB)
   have hcell':=(HB.o.cell (p:=⟨b,off+j,none⟩) hb).trans bn;have HT:=ae (fR aB);have bR:=jt l j;have dN:=HC.o l[j] (jeo aB);have hlt':(j:Int)<(l.length:Int):=(by omega);clear bn;generalize l[j]=c at *;rcases dN with rfl | ⟨hk,_⟩ | ⟨_,n,rfl,hn⟩ | ⟨hk,_⟩
   ·simp only[nul,da,if_true]at hcell'
    have HT':jgf (bV (l.take (j+1))=bV (l.take j)):=ae (by
     have:=HT.o;simpa [nul]using this)
    clear HT;go_wp2_with fail;go_roundw
    case rel=>exact⟨j+1,by omega,by go_num,by rw[HT'.o];exact HO.o,HB.o⟩
    case measure=>simp[intOf];omega
   ·omega
   ·simp only[da,show (2:Nat)≠0 from by omega,show (2:Nat)≠1 from by omega,if_false,if_true]at hcell'
    have Qw:jgf (∀ W:World,Calls Tryz.prog 169 #[.bool (decide ((n:Int)=1))] W λe w'=>e=.returned (.int .u64 (n:Int))/\w'=W):=ae (λW=>by
     have:=xF (decide ((n:Int)=1)) W;obtain rfl | rfl:n=0∨n=1:=by omega
     ·exact this
     ·exact this)
    generalize decide ((n:Int)=1)=bb at *
    have HT':jgf ((bV (l.take (j+1))).map (λc=>c.2.1.toNat)=((bV (l.take j)).map λc=>c.2.1.toNat)++[n]):=ae (by
     have:=HT.o;simp only[show (2:Nat)≠0 from by omega,if_false]at this;rw[this,jeE];simp)
    have hlen':((bV (l.take j)).map λc=>c.2.1.toNat).length<=100000:=by rw[jen];omega
    clear HT;generalize ((bV (l.take j)).map λc=>c.2.1.toNat)=L at *;go_wp2_with fail;refine(Qw.o _).mono ?_;rintro e wq ⟨rfl,rfl⟩;go_wp2_with (first | (at_builtin;refine jO rfl _ _ rfl w.heap.size _ _ n L rfl (HO.o.kept (ak _ _)) rfl (aK _ _ _) hlen' ?c2 ?_))
    case c2=>first | omega | (rw[jel];omega)
    intro v' w2 o2 b2;have dz:=ae o2;have aN:=ae ((HB.o.alloc bH _).trans b2);clear o2 b2;go_wp2_with fail;go_roundw
    case rel=>exact⟨j+1,by omega,by go_num,by rw[HT'.o];exact dz.o,aN.o⟩
    case measure=>simp[intOf];omega
   ·omega
  ·have:j=l.length:=by omega
   subst this;have gi:¬ ((l.length:Nat):Int)<(l.length:Int):=(by omega);rw[jes]at HO;go_wp2_with fail;go_ret
   exact⟨⟨_,rfl,HO.o⟩,HB.o⟩
theorem As{k:Nat}{l:List (Nat×Int×List Nat)}(h:¬ (1<=k/\k<=3/\∀ c∈l,c.1=0∨c.1=k)):(dZ k l).2=10:=by
 unfold dZ;rw[jeh h]
theorem JG{k:Nat}{l:List (Nat×Int×List Nat)}(hk:1<=k/\k<=3)(hf:∀ c∈l,aT c)(h:∀ c∈l,c.1=0∨c.1=k):(dZ k l).2=if 256<l.length then 5 else 0:=by
 unfold dZ;rw[jei ⟨hk.1,hk.2,h⟩];by_cases h2:256<l.length
 ·rw[jeh (by omega),jei h2]
 ·rw[jei ⟨by omega,λc hc=>((hf c hc).cellk (h c hc)).short⟩,jeh h2]
theorem aT.size{c:Nat×Int×List Nat}(h:aT c):c.1<=3/\c.2.2.length<=64:=by
 rcases h with rfl | ⟨n,rfl,_⟩ | ⟨n,rfl,_⟩ | ⟨s,rfl,hs,_⟩
 ·simp[nul]
 ·simp
 ·simp
 ·exact⟨by simp,hs⟩
theorem JH{w:World}{v:Value}{l:List (Nat×Int×List Nat)}(hs:Sv w v (aJ l))(hf:∀ c∈l,aT c)(k:Nat) :
  Calls Tryz.prog 122 #[.int .u8 (k:Int),v] w λe w'=>e=.returned (.int .i64 ((dZ k l).2:Int))/\Below w.heap.size w w':=by
 have HS:=ae hs;have HF:=ae hf;obtain⟨a,cap,rfl,aW,bC⟩:=hs.form1;rw[aG]at *;have hcm':cap<=9223372036854775807:=by unfold maxLen at bC;omega
 have HK:=ae (js k);by_cases hk:1<=k/\k<=3
 ·rw[jeB hk]at HK
  have HE:=ae (JG (l:=l) hk hf);have HN:=ae (As (k:=k) (l:=l));clear hs hf bC hk
  have HL:jgf (decide ((l.length:Int) > 256)=decide (256<l.length)):=ae (by
   by_cases h:256<l.length
   ·rw[jeB h,jeB (by omega)]
   ·rw[jeu h,jeu (by omega)])
  go_enter Tryz.func122,Tryz.ntmps122
  go_wp2_with fail;refine(HK.o _).mono ?_;rintro e w1 ⟨rfl,rfl⟩;go_wp2_with fail;rw[HL.o];generalize jap:decide (256<l.length)=lg;have HLG:=ae jap;clear jap;go_loopw [5,18] (λo i wr=>∃ j:Nat,j<=l.length/\o=.bool lg/\i=.int .i64 (j:Int)/\(∀ c∈l.take j,c.1=0∨c.1=k)/\Below w1.heap.size w1 wr) (λ_ i _=>l.length-(intOf i).toNat)
  case atStart=>exact⟨0,by omega,rfl,rfl,λc hc=>by simp at hc,jej _ _⟩
  case round =>
   obtain⟨j,hj,rfl,rfl,cZ,az⟩:=hrel;have HA:=ae cZ;have HB:=ae az;have bH:=az.size;clear cZ az;by_cases aB:j<l.length
   ·obtain⟨b,off,rfl,hb,bn⟩:=HS.o.at1 (cQ aB)
    have hcell':=(HB.o.cell (p:=⟨b,off+j,none⟩) hb).trans bn;have VH:=HF.o l[j] (jeo aB);have HM:=ae (jeo aB)
    have HT:jgf (∀ c,c∈l.take (j+1)->c∈l.take j∨c=l[j]):=ae (λc hc=>by
     rw[jeA aB]at hc;rcases jeN.1 hc with h | h
     ·exact Or.inl h
     ·exact Or.inr (by simpa using h))
    have hlt':(j:Int)<(l.length:Int):=(by omega);obtain⟨Lk,hc64⟩:=VH.size;have hnot64:¬ 64<((am l[j].2.2).size:Int):=by rw[bi];omega
    have HV:=ae (λW=>lS VH.val W);clear bn VH hc64;generalize l[j]=c at *;obtain⟨ck,cn,cs⟩:=c;simp only at *;generalize da (ck,cn,cs)=vc at *;generalize am cs=S at *;by_cases h0:((ck:Int) != 0)=true
    ·by_cases h1:((ck:Int) != (k:Int))=true
     ·have HN':jgf ((dZ k l).2=10):=ae (HN.o (λh=>by
       have:=h.2.2 _ HM.o;simp at h0 h1 this
       omega))
      go_wp2_with fail;refine(HV.o _).mono ?_;rintro e w2 ⟨rfl,aE⟩;have aN:=ae aE;have bv:=aE.size;clear aE;go_wp2_with fail;go_ret
      rw[HN'.o];exact⟨rfl,(HB.o.trans (aN.o.mono bH)).alloc (by omega) _⟩
     ·have h1':((ck:Int) != (k:Int))=false:=by simpa using h1
      have dN:ck=k:=by
       have:(ck:Int)=(k:Int):=by simpa using h1
       omega
      have lA:=ae dN;clear h1 dN;go_wp2_with fail;refine(HV.o _).mono ?_;rintro e w2 ⟨rfl,aE⟩;have aN:=ae aE;have bv:=aE.size;clear aE;cases lg
      ·go_wp2_with fail
       go_roundw
       case rel=>exact⟨j+1,by omega,jep Value.bool (jeu (by omega)),by go_num,λc hc=>(HT.o c hc).elim (HA.o c) (λe=>by rw[e];exact Or.inr lA.o),(HB.o.trans (aN.o.mono bH)).alloc (by omega) _⟩
       case measure=>simp[intOf];omega
      ·go_wp2_with fail
       go_roundw
       case rel=>exact⟨j+1,by omega,rfl,by go_num,λc hc=>(HT.o c hc).elim (HA.o c) (λe=>by rw[e];exact Or.inr lA.o),(HB.o.trans (aN.o.mono bH)).alloc (by omega) _⟩
       case measure=>simp[intOf];omega
    ·have h0':((ck:Int) != 0)=false:=by simpa using h0
     have dN:ck=0:=by
      have:(ck:Int)=0:=by simpa using h0
      omega
     have lA:=ae dN;clear h0 dN;go_wp2_with fail;refine(HV.o _).mono ?_;rintro e w2 ⟨rfl,aE⟩;have aN:=ae aE;have bv:=aE.size;clear aE;cases lg
     ·go_wp2_with fail
      go_roundw
      case rel=>exact⟨j+1,by omega,jep Value.bool (jeu (by omega)),by go_num,λc hc=>(HT.o c hc).elim (HA.o c) (λe=>by rw[e];exact Or.inl lA.o),(HB.o.trans (aN.o.mono bH)).alloc (by omega) _⟩
      case measure=>simp[intOf];omega
     ·go_wp2_with fail
      go_roundw
      case rel=>exact⟨j+1,by omega,rfl,by go_num,λc hc=>(HT.o c hc).elim (HA.o c) (λe=>by rw[e];exact Or.inl lA.o),(HB.o.trans (aN.o.mono bH)).alloc (by omega) _⟩
      case measure=>simp[intOf];omega
   ·have:j=l.length:=by omega
    subst this;rw[jes]at HA;have HE':=ae (HE.o HA.o);have gi:¬ ((l.length:Nat):Int)<(l.length:Int):=(by omega);cases lg
    ·have hn:¬ 256<l.length:=of_decide_eq_false HLG.o
     rw[jeh hn]at HE';go_wp2_with fail;go_ret
     rw[HE'.o];exact⟨rfl,HB.o⟩
    ·have hn:256<l.length:=of_decide_eq_true HLG.o
     rw[jei hn]at HE';go_wp2_with fail;go_ret
     rw[HE'.o];exact⟨rfl,HB.o⟩
 ·rw[jeu hk]at HK
  have HN:jgf ((dZ k l).2=10):=ae (As (λh=>hk ⟨h.1,h.2.1⟩));clear hs hf bC hk;go_enter Tryz.func122,Tryz.ntmps122
  go_wp2_with fail;refine(HK.o _).mono ?_;rintro e w1 ⟨rfl,rfl⟩;go_wp2_with fail;go_ret
  rw[HN.o];exact⟨rfl,jej _ _⟩
def stp(c:Nat):Nat:=c / 2 ^^^ (if c % 2=1 then 3988292384 else 0)
def eE:Nat->Nat->Nat
 | 0,c=>c
 | n+1,c=>eE n (stp c)
theorem TP{c:Nat}(h:c<4294967296):stp c<4294967296:=by
 have:stp c<2 ^ 32:=by
  unfold stp;apply jfY
  ·omega
  ·split<;>omega
 omega
theorem XW(a b:Nat):(a ^^^ b) % 2=(a+b) % 2:=by
 have h:(a ^^^ b).testBit 0=((a.testBit 0) ^^ (b.testBit 0)):=Nat.testBit_xor _ _ _;simp only[Nat.testBit_zero]at h;have ha:a % 2=0∨a % 2=1:=by omega
 have hb:b % 2=0∨b % 2=1:=by omega
 have hc:(a ^^^ b) % 2=0∨(a ^^^ b) % 2=1:=by omega
 generalize (a ^^^ b) % 2=z at *;rcases ha with ha | ha<;>rcases hb with hb | hb<;>rcases hc with hc | hc<;>simp[ha,hb,hc]at h<;>omega
theorem EK{a b:Nat}(h:a ^^^ b=0):a=b:=by
 have:=jep (λz=>z ^^^ b) h;simpa only[jfq,Nat.xor_self,Nat.xor_zero,Nat.zero_xor]using this
theorem XX(a b:Nat):stp (a ^^^ b)=stp a ^^^ stp b:=by
 unfold stp;have h1:(a ^^^ b) / 2=a / 2 ^^^ b / 2:=Nat.xor_div_two;have h2:(a ^^^ b) % 2=(a+b) % 2:=XW a b;rw[h1];have ha:a % 2=0∨a % 2=1:=by omega
 have hb:b % 2=0∨b % 2=1:=by omega
 rcases ha with ha | ha<;>rcases hb with hb | hb
 ·have h3:(a ^^^ b) % 2=0:=by omega
  simp[ha,hb,h3]
 ·have h3:(a ^^^ b) % 2=1:=by omega
  simp[ha,hb,h3,jfq]
 ·have h3:(a ^^^ b) % 2=1:=by omega
  simp[ha,hb,h3,jfq]
  rw[Nat.xor_comm (b / 2)]
 ·have h3:(a ^^^ b) % 2=0:=by omega
  simp only[ha,hb,h3];simp only[jei,Nat.xor_zero,Nat.zero_ne_one,if_false];generalize 3988292384=p;rw[jfq,Nat.xor_comm (b / 2) p,← jfq p,Nat.xor_self,Nat.zero_xor]
theorem TQ(x:Nat):stp (2*x)=x:=by
 unfold stp;rw[jeh (by omega)];simp
theorem TR{c:Nat}(h:c<4294967296)(h0:stp c=0):c=0:=by
 unfold stp at h0;by_cases hc:c % 2=1
 ·rw[jei hc]at h0
  have:c / 2=3988292384:=EK h0;omega
 ·rw[jeh hc,Nat.xor_zero]at h0
  omega
theorem rK:∀(n:Nat) {c:Nat},c<4294967296->eE n c<4294967296
 | 0,_,h=>h
 | n+1,_,h=>rK n (TP h)
theorem rL:∀(n a b:Nat),eE n (a ^^^ b)=eE n a ^^^ eE n b
 | 0,_,_=>rfl
 | n+1,a,b=>by rw[eE,eE,eE,XX,rL n]
theorem nY:∀(m n c:Nat),eE (m+n) c=eE n (eE m c)
 | 0,n,c=>by rw[jeO];rfl
 | m+1,n,c=>by rw[Nat.add_right_comm,eE,eE,nY m n]
theorem Pg(n c:Nat):eE (n+1) c=stp (eE n c):=nY n 1 c
theorem mQ:∀(n x:Nat),eE n (2 ^ n*x)=x
 | 0,x=>by simp[eE]
 | n+1,x=>by
  rw[eE,Nat.pow_succ,jeU (2 ^ n) 2,jfz,TQ,mQ n]
theorem Au:∀(n:Nat) {c:Nat},c<4294967296->eE n c=0->c=0
 | 0,_,_,h0=>h0
 | n+1,_,h,h0=>TR h (Au n (TP h) h0)
theorem kq{a r n:Nat}(h:a<2 ^ n):a+2 ^ n*r=a ^^^ (2 ^ n*r):=by
 apply Nat.eq_of_testBit_eq
 intro i;rw[Nat.testBit_xor,Nat.add_comm,Nat.testBit_two_pow_mul_add _ h,Nat.testBit_two_pow_mul];by_cases hi:i<n
 ·rw[jei hi]
  simp[show ¬ n<=i by omega]
 ·rw[jeh hi]
  have h1:a.testBit i=false:=Nat.testBit_lt_two_pow (jeH h (jfA (by omega) (by omega)));simp[h1,show n<=i by omega]
theorem Ph(n c:Nat):eE n c=eE n (c % 2 ^ n) ^^^ c / 2 ^ n:=by
 have h:c=c % 2 ^ n ^^^ (2 ^ n*(c / 2 ^ n)):=by
  rw[← kq (Nat.mod_lt _ (jfe n))];exact(Nat.mod_add_div c (2 ^ n)).symm
 conv=>lhs;rw[h]
 rw[rL,mQ]
def byt(c x:Nat):Nat:=eE 8 (c ^^^ x)
def run(c:Nat)(b:List Nat):Nat:=b.foldl byt c
def nt(c:Nat)(b:List Nat):Nat:=run (c ^^^ 4294967295) b ^^^ 4294967295
theorem EL(c x:Nat)(b:List Nat):run c (x::b)=run (byt c x) b:=rfl
theorem JI(c:Nat)(a b:List Nat):run c (a++b)=run (run c a) b:=List.foldl_append
theorem TS(c x:Nat)(b:List Nat):run c (b++[x])=byt (run c b) x:=by rw[JI];rfl
theorem kK{a b:Nat}(ha:a<4294967296)(hb:b<4294967296):a ^^^ b<4294967296:=by
 have:a ^^^ b<2 ^ 32:=jfY (by omega) (by omega);omega
theorem jbw{c x:Nat}(h:c<4294967296)(hx:x<256):byt c x<4294967296:=rK 8 (kK h (by omega))
theorem tw:∀{b:List Nat} {c:Nat},c<4294967296->(∀ x∈b,x<256)->run c b<4294967296
 | [],_,h,_=>h
 | x::b,c,h,hb=>by
  rw[EL];exact tw (jbw h (hb x (by simp))) λy hy=>hb y (by simp[hy])
theorem vX{b:List Nat}{c:Nat}(h:c<4294967296)(hb:∀ x∈b,x<256):nt c b<4294967296:=kK (tw (kK h (by omega)) hb) (by omega)
theorem TT(a p:Nat):a ^^^ p ^^^ p=a:=by rw[jfq,Nat.xor_self,Nat.xor_zero]
def leN:List Nat->Nat
 | []=>0
 | x::b=>x+256*leN b
theorem JJ:∀{b:List Nat},(∀ x∈b,x<256)->leN b<2 ^ (8*b.length)
 | [],_=>by simp[leN]
 | x::b,h=>by
  have h1:=JJ (b:=b) λy hy=>h y (by simp[hy])
  have h2:=h x (by simp);rw[leN,jer,jft,jfl];omega
theorem BZ:∀{b:List Nat} (c:Nat),(∀ x∈b,x<256)->run c b=eE (8*b.length) (c ^^^ leN b)
 | [],c,_=>by simp[run,leN,eE]
 | x::b,c,h=>by
  have hx:x<2 ^ 8:=h x (by simp);rw[EL,BZ (byt c x) λy hy=>h y (by simp[hy]),jer,jft,Nat.add_comm (8*b.length),nY,leN];congr 1
  have e:x+256*leN b=x ^^^ (2 ^ 8*leN b):=kq hx;rw[e,← jfq,rL,mQ];rfl
theorem Pi{a b:List Nat}{c X f:Nat}(ha:∀ x∈a,x<256)(hb:∀ x∈b,x<256)(hl:a.length=b.length)(hX:X<4294967296)(hf:f<=8*a.length)
  (h:leN b=leN a ^^^ (2 ^ f*X)) (he:run c a=run c b):X=0:=by
 rw[BZ c ha,BZ c hb,← hl,h,← jfq,rL _ (c ^^^ leN a)]at he
 have h0:eE (8*a.length) (2 ^ f*X)=0:=by
  have:=jep (λz=>eE (8*a.length) (c ^^^ leN a) ^^^ z) he;simp only[Nat.xor_self,← jfq,Nat.zero_xor]at this;exact this.symm
 rw[show 8*a.length=f+(8*a.length-f) by omega,nY,mQ]at h0;exact Au _ hX h0
theorem JK{a b:List Nat}{c X f:Nat}(ha:∀ x∈a,x<256)(hb:∀ x∈b,x<256)(hl:a.length=b.length)(hX:X<4294967296)(hf:f<=8*a.length)
  (h:leN b=leN a ^^^ (2 ^ f*X)) (he:nt c a=nt c b):X=0:=by
 refine Pi (c:=c ^^^ 4294967295) ha hb hl hX hf h ?_;have:=jep (λz=>z ^^^ 4294967295) he;unfold nt at this;simpa only[TT]using this
theorem Md:∀{b:List Nat} {j y:Nat} (hj:j<b.length),(∀ x∈b,x<256)->y<256->leN (b.set j (b[j] ^^^ y))=leN b ^^^ (2 ^ (8*j)*y)
 | [],j,y,hj,_,_=>by simp at hj
 | x::b,0,y,_,h,hy=>by
  have hx:x<2 ^ 8:=h x (by simp);have Di:x ^^^ y<2 ^ 8:=jfY hx hy;simp only[jew,jfZ,leN];have e1:x+256*leN b=x ^^^ (2 ^ 8*leN b):=kq hx;have e2:(x ^^^ y)+256*leN b=(x ^^^ y) ^^^ (2 ^ 8*leN b):=kq Di;rw[e1,e2,Nat.mul_zero,Nat.pow_zero,jfp,jfq,Nat.xor_comm y,← jfq]
 | x::b,j+1,y,hj,h,hy=>by
  have hx:x<2 ^ 8:=h x (by simp);have ih:=Md (b:=b) (j:=j) (y:=y) (by simpa using hj) (λz hz=>h z (by simp[hz])) hy;simp only[jex,List.getElem_cons_succ,leN];rw[ih];have e1:x+256*leN b=x ^^^ (2 ^ 8*leN b):=kq hx;have e2:x+256*(leN b ^^^ 2 ^ (8*j)*y)=x ^^^ (2 ^ 8*(leN b ^^^ 2 ^ (8*j)*y)):=kq hx;rw[e1,e2,jfq];congr 1
  have e3:2 ^ 8*(leN b ^^^ 2 ^ (8*j)*y)=2 ^ 8*leN b ^^^ 2 ^ 8*(2 ^ (8*j)*y):=by
   apply Nat.eq_of_testBit_eq
   intro i;simp only[Nat.testBit_xor,Nat.testBit_two_pow_mul];cases decide (i>=8)<;>simp
  rw[e3,← jfz,← jfl,jft,Nat.add_comm 8]
def le4(s:Nat):List Nat:=[s % 256,s / 256 % 256,s / 65536 % 256,s / 16777216 % 256]
theorem tz(s:Nat):∀ x∈le4 s,x<256:=by
 intro x hx;simp[le4]at hx
 omega
theorem Ca{s:Nat}(h:s<4294967296):leN (le4 s)=s:=by
 simp[le4,leN]
 omega
theorem XY{s t:Nat}(hs:s<4294967296)(ht:t<4294967296)(h:le4 s=le4 t):s=t:=by
 rw[← Ca hs,← Ca ht,h]
def bE(b:List Nat):List Nat:=b++le4 (nt 0 b)
theorem jh(b:List Nat):(bE b).length=b.length+4:=by simp[bE,le4]
def eC(b:List Nat):Option (List Nat) :=
 if 4<=b.length/\bE (b.take (b.length-4))=b then some (b.take (b.length-4)) else none
theorem xG(b:List Nat):eC (bE b)=some b:=by
 unfold eC
 have h:(bE b).take ((bE b).length-4)=b:=by
  rw[jh,jgc];unfold bE;rw[jfh]
 rw[h,jei ⟨by rw[jh];omega,rfl⟩]
theorem Cb{b:List Nat}{j y:Nat}(hb:∀ x∈b,x<256)(hj:j<(bE b).length)(hy:y<256)(h0:y≠0):eC ((bE b).set j ((bE b)[j] ^^^ y))=none:=by
 unfold eC;rw[jeh];rintro⟨_,h⟩;have eN:=jh b;rw[jfD,eN,jgc]at h
 have hsb:∀ x∈bE b,x<256:=by
  intro x hx;rcases jeN.1 hx with hx | hx
  ·exact hb x hx
  ·exact tz _ x hx
 have hv:(bE b)[j] ^^^ y<256:=by
  have:(bE b)[j] ^^^ y<2 ^ 8:=jfY (hsb _ (jeo hj)) hy;omega
 have fJ:(bE b)[j] ^^^ y≠(bE b)[j]:=by
  intro e;have:=jep (λz=>(bE b)[j] ^^^ z) e;simp only[← jfq,Nat.xor_self,Nat.zero_xor]at this;exact h0 this
 by_cases hjb:j<b.length
 ·have e1:(bE b).set j ((bE b)[j] ^^^ y)=b.set j (b[j] ^^^ y)++le4 (nt 0 b):=by
   have hg:(bE b)[j]=b[j]:=jf9 hjb;rw[hg];unfold bE;rw[List.set_append_left _ _ hjb]
  have fK:(b.set j (b[j] ^^^ y)).length=b.length:=jfD;rw[e1,List.take_append_of_le_length (by rw[fK];exact jek _),je4 (by rw[fK];exact jek _)]at h;unfold bE at h;have h2:=List.append_cancel_left h
  have aE:∀ x∈b.set j (b[j] ^^^ y),x<256:=by
   intro x hx;rcases jgd hx with hx | rfl
   ·exact hb x hx
   ·have:b[j] ^^^ y<2 ^ 8:=jfY (hb _ (jeo hjb)) hy
    omega
  have h3:=XY (vX (by omega) aE) (vX (by omega) hb) h2;exact h0 (JK (c:=0) (X:=y) (f:=8*j) hb aE fK.symm (by omega) (by omega) (Md hjb hb hy) h3.symm)
 ·have e1:((bE b).set j ((bE b)[j] ^^^ y)).take b.length=b:=by
   rw[List.take_set_of_le (by omega)];unfold bE;rw[jfh]
  rw[e1]at h;have:=jep (λl:List Nat=>l[j]?) h;simp only[List.getElem?_set_self hj,List.getElem?_eq_getElem hj,Option.some.injEq]at this;exact fJ this.symm
end Go.Proofs.YtpljdjmpamjkhaaGreatDoor
