import Derived.Test.YtpljdjmpamjkhaaGreatDoorYat
set_option linter.unusedVariables false
set_option linter.unusedSimpArgs false
set_option maxRecDepth 100000
set_option maxHeartbeats 8000000
namespace Go.Proofs.YtpljdjmpamjkhaaGreatDoor
open Go.RowKit Go.Lib
def nb(l:List UInt8):List Nat:=l.map UInt8.toNat
theorem Lb(l:List UInt8):am (nb l)=⟨l.toArray⟩:=by
 unfold am nb;congr 1
 rw[jao];have:(Nat.toUInt8 ∘ UInt8.toNat)=id:=by funext x;simp
 rw[this,jaN]
theorem lb_nb(l:List UInt8):lb (am (nb l))=l:=by rw[Lb];rfl
theorem JI{t:ByteArray}{l:List UInt8}(h:lb t=l):t=am (nb l):=Fo (by rw[lb_nb,h])
theorem Vu(l:List UInt8):Bs (nb l):=fun x hx=>by
 unfold nb at hx;obtain⟨y,_,rfl⟩:=jaa.1 hx;exact UInt8.toNat_lt y
def nw(x:Cl)(cl:Bool):Cl:=if x.1=3/\cl=false then (3,0,[]) else (x.1,x.2.1,nb (bV (lb (am x.2.2)) 4))
def gp(x:Cl)(cl:Bool):Cl×Bool:=if x.1=3 then (match gG (lb (am x.2.2)) 4 with
 | none=>(nul,false)
 | some a=>if cl=true then ((3,0,nb a),true) else (nul,false)) else (x,true)
def Ceb(W:World)(p:Nat)(x y z:Value):Prop:=W.heap[p]?=some (.cells #[x,y,z] 52 (0,0))
theorem Ceb.facts{W:World}{p:Nat}{x y z:Value}(h:Ceb W p x y z):(W.cell? ⟨p,0,none⟩=some x/\W.cell? ⟨p,1,none⟩=some y/\W.cell? ⟨p,2,none⟩=some z)/\(W.frozen? ⟨p,0,none⟩=false/\W.frozen? ⟨p,1,none⟩=false/\W.frozen? ⟨p,2,none⟩=false)/\p<W.heap.size:=by
 unfold Ceb at h;refine⟨⟨by rw[ax h];rfl,by rw[ax h];rfl,by rw[ax h];rfl⟩,⟨by simp[World.frozen?,h],by simp[World.frozen?,h],by simp[World.frozen?,h]⟩,(Array.getElem?_eq_some_iff.1 h).1⟩
theorem Ceb.kept{W W':World}{p:Nat}{x y z:Value}(h:Ceb W p x y z)(hb:Below W.heap.size W W'):Ceb W' p x y z:=by
 have hp:=h.facts.2.2;unfold Ceb at *;rw[hb.block p hp];exact h
theorem Ceb.new(w:World)(x y z:Value):Ceb (w.alloc (.cells #[x,y,z] 52)) w.heap.size x y z:=heap_alloc_new w _
theorem AF{x:Cl}(hf:aU x)(cl:Bool)(w:World):Calls Tryz.prog 103 #[de x,.bool cl] w fun e w'=>e=.returned (.agg #[.int .u8 ((nw x cl).1:Int),.int .i64 (nw x cl).2.1,.string (am (nw x cl).2.2)])/\Below w.heap.size w w':=by
 have HF:=ae hf;have hr:=Ceb.new w (.int .u8 0) (.int .i64 0) (.string ⟨#[]⟩);have dW:=ak w (.cells #[.int .u8 0,.int .i64 0,.string ⟨#[]⟩] 52);have HD:Hid (nw x cl=if x.1=3/\cl=false then (3,0,[]) else (x.1,x.2.1,nb (bV (lb (am x.2.2)) 4))):=ae rfl;generalize nw x cl=R at *;have HR:=ae hr;have cC:=ae dW;have HZ:Hid (w.heap.size<(w.alloc (.cells #[.int .u8 0,.int .i64 0,.string ⟨#[]⟩] 52)).heap.size):=ae hr.facts.2.2;clear hf hr dW;go_enter Tryz.func103,Tryz.ntmps103
 go_wp2_with fail;refine(ly HF.out.val _).mono ?_;rintro e w1 ⟨rfl,aG⟩;have aQ:=ae (ai cC.out aG);have rL:=ae (HR.out.kept aG);have cW:w.heap.size<w1.heap.size:=Z9 HZ.out aG.size;clear aG HR;have EA:=Ceb.new w1 (.int .u8 (x.1:Int)) (.int .i64 x.2.1) (.string (am x.2.2));have aD:=ak w1 (.cells #[.int .u8 (x.1:Int),.int .i64 x.2.1,.string (am x.2.2)] 52);have mP:=ae EA;have i6:=ae (rL.out.kept aD);have aN:=ae (ai aQ.out aD);obtain⟨⟨d0,d1,d2⟩,⟨f0,f1,f2⟩,_⟩:=EA.facts;obtain⟨⟨r0,r1,r2⟩,⟨s0,s1,s2⟩,_⟩:=i6.out.facts;have fO:¬ w1.heap.size=w.heap.size:=by omega
 have yk:¬ w.heap.size=w1.heap.size:=by omega
 clear EA aD rL;generalize hW:w1.alloc (.cells #[.int .u8 (x.1:Int),.int .i64 x.2.1,.string (am x.2.2)] 52)=W at *;by_cases h3:x.1=3/\cl=false
 ·rw[if_pos h3]at HD
  obtain⟨h3a,rfl⟩:=h3;have h3':((x.1:Int)==3)=true:=by rw[h3a];rfl
  clear h3a;go_wp2_with fail;refine bodyPost_ret (v:=.agg #[.int .u8 3,.int .i64 0,.string ⟨#[]⟩]) (by simp[results,Tryz.results103,go_sem,r0,r1,r2]) rfl ⟨?_,set3 aN.out (ZR _) _ _ _⟩;rw[HD.out];rfl
 ·rw[if_neg h3]at HD
  have Mv:=ae (yH (am x.2.2) 4 (by have:=HF.out.short;omega))
  have xz:((x.1:Int)==3)=false∨(((x.1:Int)==3)=true/\cl=true):=by
   by_cases hx:x.1=3
   ·right
    refine⟨by rw[hx];rfl,?_⟩;cases cl
    ·exact absurd ⟨hx,rfl⟩ h3
    ·rfl
   ·left
    exact Z1.2 (by omega)
  clear h3;rcases xz with h3' | ⟨h3',rfl⟩
  all_goals
   go_wp2_with fail;refine(Mv.out _).mono ?_;rintro e w3 ⟨⟨t,rfl,ht⟩,aP⟩;have Bz:=ae (JI ht);obtain⟨⟨d0',d1',d2'⟩,⟨f0',f1',f2'⟩,_⟩:=(mP.out.kept aP).facts;obtain⟨⟨r0',r1',r2'⟩,⟨s0',s1',s2'⟩,_⟩:=(i6.out.kept aP).facts;have bM:=ae (ai aN.out aP);have HZZ:Hid (w.heap.size<=w1.heap.size):=ae (by omega);clear aP ht d0 d1 d2 f0 f1 f2 r0 r1 r2 s0 s1 s2 hW;go_wp2_with fail;refine bodyPost_ret (v:=.agg #[.int .u8 (x.1:Int),.int .i64 x.2.1,.string t]) (by simp[results,Tryz.results103,go_sem,r0',r1',r2',fO,yk]) rfl ⟨?_,set3 (bM.out.setCell (p:=⟨w1.heap.size,2,none⟩) HZZ.out _) (ZR _) _ _ _⟩;rw[HD.out,Bz.out]
theorem xN{x:Cl}(hf:aU x)(cl:Bool)(w:World):Calls Tryz.prog 106 #[de x,.bool cl] w fun e w'=>e=.returned (.tuple #[.agg #[.int .u8 ((gp x cl).1.1:Int),.int .i64 (gp x cl).1.2.1,.string (am (gp x cl).1.2.2)],.bool (gp x cl).2])/\Below w.heap.size w w':=by
 have HF:=ae hf;have hr:=Ceb.new w (.int .u8 0) (.int .i64 0) (.string ⟨#[]⟩);have dW:=ak w (.cells #[.int .u8 0,.int .i64 0,.string ⟨#[]⟩] 52)
 have HD:Hid (gp x cl=if x.1=3 then (match gG (lb (am x.2.2)) 4 with
  | none=>(nul,false)
  | some a=>if cl=true then ((3,0,nb a),true) else (nul,false)) else (x,true)):=ae rfl
 generalize gp x cl=R at *;have HR:=ae hr;have cC:=ae dW;have HZ:Hid (w.heap.size<(w.alloc (.cells #[.int .u8 0,.int .i64 0,.string ⟨#[]⟩] 52)).heap.size):=ae hr.facts.2.2;clear hf hr dW;go_enter Tryz.func106,Tryz.ntmps106
 go_wp2_with fail;refine(ly HF.out.val _).mono ?_;rintro e w1 ⟨rfl,aG⟩;have aQ:=ae (ai cC.out aG);have rL:=ae (HR.out.kept aG);have cW:w.heap.size<w1.heap.size:=Z9 HZ.out aG.size;clear aG HR;have EA:=Ceb.new w1 (.int .u8 (x.1:Int)) (.int .i64 x.2.1) (.string (am x.2.2));have aD:=ak w1 (.cells #[.int .u8 (x.1:Int),.int .i64 x.2.1,.string (am x.2.2)] 52);have mP:=ae EA;have i6:=ae (rL.out.kept aD);have aN:=ae (ai aQ.out aD);obtain⟨⟨d0,d1,d2⟩,⟨f0,f1,f2⟩,_⟩:=EA.facts;obtain⟨⟨r0,r1,r2⟩,⟨s0,s1,s2⟩,_⟩:=i6.out.facts;clear EA aD rL;generalize hW:w1.alloc (.cells #[.int .u8 (x.1:Int),.int .i64 x.2.1,.string (am x.2.2)] 52)=W at *;by_cases h3:x.1=3
 ·rw[if_pos h3]at HD
  have h3':((x.1:Int) != 3)=false:=by rw[h3];rfl
  have VR:=ae (KO (am x.2.2) 4 (by have:=HF.out.short;omega));clear h3;go_wp2_with fail;refine(VR.out _).mono ?_;rintro e w3 ⟨⟨t,o,rfl,ho,ht⟩,aP⟩;obtain⟨⟨r0',r1',r2'⟩,⟨s0',s1',s2'⟩,_⟩:=(i6.out.kept aP).facts;have bM:=ae (ai aN.out aP);clear aP d0 d1 d2 f0 f1 f2 r0 r1 r2 s0 s1 s2 hW;cases ha:gG (lb (am x.2.2)) 4 with
  | none =>
   rw[ha]at HD ho;have ho':o=false:=ho;subst ho';clear ha ho ht;simp only at HD;go_wp2_with fail;refine bodyPost_ret (v:=.tuple #[.agg #[.int .u8 0,.int .i64 0,.string ⟨#[]⟩],.bool false]) (by simp[results,Tryz.results106,go_sem,r0',r1',r2']) rfl ⟨?_,set3 bM.out (ZR _) _ _ _⟩;rw[HD.out];rfl
  | some av =>
   rw[ha]at HD ho ht;have ho':o=true:=ho;subst ho';have Bz:=ae (JI (show lb t=av from ht));clear ha ho ht;simp only at HD;cases cl
   ·go_wp2_with fail
    refine bodyPost_ret (v:=.tuple #[.agg #[.int .u8 0,.int .i64 0,.string ⟨#[]⟩],.bool false]) (by simp[results,Tryz.results106,go_sem,r0',r1',r2']) rfl ⟨?_,set3 bM.out (ZR _) _ _ _⟩;rw[HD.out];rfl
   ·go_wp2_with fail
    refine bodyPost_ret (v:=.tuple #[.agg #[.int .u8 3,.int .i64 0,.string t],.bool true]) (by simp[results,Tryz.results106,go_sem,r0',r1',r2']) rfl ⟨?_,set3 bM.out (ZR _) _ _ _⟩;rw[HD.out,Bz.out];rfl
 ·rw[if_neg h3]at HD
  have h3':((x.1:Int) != 3)=true:=by simp;omega
  clear h3;go_wp2_with fail;refine bodyPost_ret (v:=.tuple #[.agg #[.int .u8 (x.1:Int),.int .i64 x.2.1,.string (am x.2.2)],.bool true]) (by simp[results,Tryz.results106,go_sem,r0,r1,r2]) rfl ⟨?_,set3 aN.out (ZR _) _ _ _⟩;rw[HD.out]
def ct(cs:List Cl):Stt:=match aY cs with
 | []=>⟨cs.length,cs.length,false,false,nul,nul⟩
 | x::r=>⟨cs.length,(cs.length:Int)-((x::r).length:Nat),true,(gp (eC x r) ((x::r).all eK)).2,nw (fX x r) ((x::r).all eK),(gp (eC x r) ((x::r).all eK)).1⟩
theorem Stb.kept{W W':World}{p:Nat}{st:Stt}(h:Stb W p st)(hb:Below W.heap.size W W'):Stb W' p st:=by
 have hp:=h.at.1;unfold Stb at *;rw[hb.block p hp];exact h
theorem Stb.frozen{W:World}{p:Nat}{st:Stt}(h:Stb W p st)(i:Nat):W.frozen? ⟨p,i,none⟩=false:=by
 unfold Stb at h;simp[World.frozen?,h]
theorem Stb.lo{W:World}{p:Nat}{st:Stt}(h:Stb W p st)(c:Cl):Stb (((W.setCell ⟨p,4,none⟩ (.int .u8 (c.1:Int))).setCell ⟨p,5,none⟩ (.int .i64 c.2.1)).setCell ⟨p,6,none⟩ (.string (am c.2.2))) p { st with lo:=c }:=by
 unfold Stb at *;rw[cH (cH (cH h 4 _) 5 _) 6 _];rfl
theorem Stb.other{W:World}{p q:Nat}{st:Stt}(h:Stb W q st)(hn:q≠p)(i:Nat)(v:Value):Stb (W.setCell ⟨p,i,none⟩ v) q st:=by
 unfold Stb at *;rw[heap_setCell_other _ ⟨p,i,none⟩ q _ hn];exact h
theorem fh{B:Nat}{w W:World}(h:Below B w W){p:Nat}(hp:B<=p)(i:Nat)(x:Value):Below B w (W.setCell ⟨p,i,none⟩ x):=h.setCell (p:=⟨p,i,none⟩) hp _
theorem P4{B:Nat}{w W:World}(h:Below B w W){p:Nat}(hp:B<=p)(x0 x1 x2 x3 x4 x5 x6 x7 x8 x9:Value):Below B w ((((((((((W.setCell ⟨p,0,none⟩ x0).setCell ⟨p,1,none⟩ x1).setCell ⟨p,2,none⟩ x2).setCell ⟨p,3,none⟩ x3).setCell ⟨p,4,none⟩ x4).setCell ⟨p,5,none⟩ x5).setCell ⟨p,6,none⟩ x6).setCell ⟨p,7,none⟩ x7).setCell ⟨p,8,none⟩ x8).setCell ⟨p,9,none⟩ x9) :=
 fh (fh (fh (fh (fh (fh (fh (fh (fh (fh h hp _ _) hp _ _) hp _ _) hp _ _) hp _ _) hp _ _) hp _ _) hp _ _) hp _ _) hp _ _
def stZ:Stt:=⟨0,0,false,false,nul,nul⟩
theorem zi{w:World}{v:Value}{cs:List Cl}(hs:Sv w v (aI cs))(hf:∀ c∈cs,aU c)(hl:cs.length<=1000):Calls Tryz.prog 59 #[v] w fun e w'=>e=.returned (ua (ct cs))/\Below w.heap.size w w':=by
 have HF:=ae hf;have ce:=Stb.new w stZ;have dW:=ak w (.cells #[.int .i64 0,.int .i64 0,.bool false,.bool false,.int .u8 0,.int .i64 0,.string ⟨#[]⟩,.int .u8 0,.int .i64 0,.string ⟨#[]⟩] 54);have hz0':Stb (w.alloc (.cells #[.int .i64 0,.int .i64 0,.bool false,.bool false,.int .u8 0,.int .i64 0,.string ⟨#[]⟩,.int .u8 0,.int .i64 0,.string ⟨#[]⟩] 54)) w.heap.size stZ:=ce;have lr:=ae (hs.kept dW);obtain⟨a,cap,rfl,aX,bw⟩:=hs.form1;rw[aF]at *;have X8:=ae hz0';have cC:=ae dW;have sA:(w.alloc (.cells #[.int .i64 0,.int .i64 0,.bool false,.bool false,.int .u8 0,.int .i64 0,.string ⟨#[]⟩,.int .u8 0,.int .i64 0,.string ⟨#[]⟩] 54)).heap.size=w.heap.size+1:=ZS _ _;have rz:=ae sA;clear hs hf ce dW hz0' sA;generalize hA:w.alloc (.cells #[.int .i64 0,.int .i64 0,.bool false,.bool false,.int .u8 0,.int .i64 0,.string ⟨#[]⟩,.int .u8 0,.int .i64 0,.string ⟨#[]⟩] 54)=A at *;have HL:=ae hl;clear hl;go_enter Tryz.func59,Tryz.ntmps59
 go_wp2_with fail;try rw[hA]
 refine(pK lr.out HL.out).mono ?_;rintro e w1 ⟨⟨v1,rfl,eG⟩,aG⟩;have fA:=ae eG;have aQ:=ae aG;clear eG aG hA;go_wp2_with fail;refine(wC fA.out HF.out aQ.out.size).mono ?_;rintro e w2 ⟨⟨v2,rfl,ef⟩,aD⟩;have aN:=ae (aQ.out.trans aD);have gC:=ae ef;have Mw:Hid (∀ c∈aY cs,aU c):=ae (fun c hc=>HF.out c (by unfold aY at hc;exact(jbq.1 hc).1));obtain⟨a2,cap2,rfl,Rk,yc⟩:=ef.form1;rw[aF]at *
 have cP:Hid (ct cs=match aY cs with
  | []=>⟨cs.length,cs.length,false,false,nul,nul⟩
  | x::r=>⟨cs.length,(cs.length:Int)-((x::r).length:Nat),true,(gp (eC x r) ((x::r).all eK)).2,nw (fX x r) ((x::r).all eK),(gp (eC x r) ((x::r).all eK)).1⟩):=ae rfl
 have Zq:Hid ((aY cs).length<=cs.length):=ae (jbf _ _);clear aD ef fA aQ lr;generalize aY cs=ns at *;have J6:=ae (X8.out.kept aN.out);have m9:=ae (ai cC.out aN.out);have na:Hid (w.heap.size<w2.heap.size):=ae J6.out.at.1;clear X8 cC aN bw yc;cases ns with
 | nil =>
  simp only at cP;simp only[jad]at *;have hSb:=Stb.new w2 ⟨cs.length,cs.length,false,false,nul,nul⟩;have hSb':Stb (w2.alloc (.cells #[.int .i64 (cs.length:Int),.int .i64 (cs.length:Int),.bool false,.bool false,.int .u8 0,.int .i64 0,.string ⟨#[]⟩,.int .u8 0,.int .i64 0,.string ⟨#[]⟩] 54)) w2.heap.size ⟨cs.length,cs.length,false,false,nul,nul⟩:=hSb;clear hSb;have HSb:=ae hSb';have hbG:=ak w2 (.cells #[.int .i64 (cs.length:Int),.int .i64 (cs.length:Int),.bool false,.bool false,.int .u8 0,.int .i64 0,.string ⟨#[]⟩,.int .u8 0,.int .i64 0,.string ⟨#[]⟩] 54);have hZG:=J6.out.kept hbG;have Hj:wrap64 (cs.length:Int)=(cs.length:Int):=by have:=HL.out;unfold wrap64;omega
  obtain⟨_,⟨r0,r1,r2,r3⟩,⟨r4,r5,r6⟩,r7,r8,r9⟩:=J6.out.at;obtain⟨_,⟨q0,q1,q2,q3⟩,⟨q4,q5,q6⟩,q7,q8,q9⟩:=hZG.at;simp only[jaf]at r0 r1 r2 r3 r4 r5 r6 r7 r8 r9 q0 q1 q2 q3 q4 q5 q6 q7 q8 q9;have fz:=J6.out.frozen;have fg:=hZG.frozen;have pf:=na.out;have xk:∀(X:World) (o:Obj) (i:Nat),w.heap.size<X.heap.size->(X.alloc o).cell? ⟨w.heap.size,i,none⟩=X.cell? ⟨w.heap.size,i,none⟩:=fun X o i h=>(ak X o).cell h
  have Hy:=P4 m9.out (ZR _) (.int .i64 (cs.length:Int)) (.int .i64 (cs.length:Int)) (.bool false) (.bool false) (.int .u8 0) (.int .i64 0) (.string ⟨#[]⟩) (.int .u8 0) (.int .i64 0) (.string ⟨#[]⟩);have HSET:=ae Hy;clear hSb' Hy hbG hZG;go_wp2_with fail;refine bodyPost_ret (v:=.agg #[.int .i64 (cs.length:Int),.int .i64 (cs.length:Int),.bool false,.bool false,.int .u8 0,.int .i64 0,.string ⟨#[]⟩,.int .u8 0,.int .i64 0,.string ⟨#[]⟩]) (by simp[results,Tryz.results59,go_sem,xk,pf,r0,r1,r2,r3,r4,r5,r6,r7,r8,r9]) rfl ⟨?_,?_⟩
  ·rw[cP.out]
   rfl
  ·exact HSET.out.alloc HSET.out.size _
 | cons x r =>
  simp only at cP;have hmp:(0:Int)<((x::r).length:Int):=by simp only[ZW];omega
  have Mu:Stb (w2.alloc (.cells #[.int .i64 (cs.length:Int),.int .i64 ((cs.length:Int)-((x::r).length:Int)),.bool true,.bool false,.int .u8 0,.int .i64 0,.string ⟨#[]⟩,.int .u8 0,.int .i64 0,.string ⟨#[]⟩] 54)) w2.heap.size ⟨cs.length,(cs.length:Int)-((x::r).length:Int),true,false,nul,nul⟩:=Stb.new w2 ⟨cs.length,(cs.length:Int)-((x::r).length:Int),true,false,nul,nul⟩;have hbG:=ak w2 (.cells #[.int .i64 (cs.length:Int),.int .i64 ((cs.length:Int)-((x::r).length:Int)),.bool true,.bool false,.int .u8 0,.int .i64 0,.string ⟨#[]⟩,.int .u8 0,.int .i64 0,.string ⟨#[]⟩] 54);have HGB:=ae Mu;have HBG:=ae hbG;have Hj:wrap64 ((cs.length:Int)-((x::r).length:Int))=(cs.length:Int)-((x::r).length:Int):=by have:=HL.out;have:=Zq.out;unfold wrap64;omega
  have X9:Hid (∀ U,Below w2.heap.size w2 U->Sv U (.slice a2 (x::r).length cap2) (aI (x::r))/\Stb U w.heap.size stZ):=ae (fun U h=>⟨gC.out.kept h,J6.out.kept h⟩);have M4:Hid (aU x):=ae (Mw.out x (by simp));have m8:Hid (∀ c∈r,aU c):=ae (fun c hc=>Mw.out c (by simp[hc]));have HFMI:Hid (aU (fX x r)):=ae (lN M4.out m8.out);have HFMA:Hid (aU (eC x r)):=ae (nt M4.out m8.out);have Mx:=ae (fun U (h:Below w2.heap.size w2 U)=>wD (X9.out U h).1 Mw.out);have HMI:Hid (∀ U,Below w2.heap.size w2 U->Calls Tryz.prog 104 #[.slice a2 (x::r).length cap2,.func (.func 105) #[] #[]] U fun e w'=>e=.returned (de (fX x r))/\Below U.heap.size U w'):=ae (fun U h=>PZ (X9.out U h).1 Mw.out (by simp));have HMA:Hid (∀ U,Below w2.heap.size w2 U->Calls Tryz.prog 107 #[.slice a2 (x::r).length cap2,.func (.func 105) #[] #[]] U fun e w'=>e=.returned (de (eC x r))/\Below U.heap.size U w'):=ae (fun U h=>P3 (X9.out U h).1 Mw.out (by simp));obtain⟨cl,eO⟩:∃ cl,cl=(x::r).all eK:=⟨_,rfl⟩;rw[← eO]at cP Mx;clear eO Mu hbG;generalize fX x r=mi at *;generalize eC x r=ma at *;have VS:=ae (AF HFMI.out cl);have HHI:=ae (xN HFMA.out cl);generalize nw mi cl=lo at *;generalize gp ma cl=hi at *;obtain⟨hi,hib⟩:=hi;simp only at cP HHI;generalize hmm:(x::r).length=m at *;have Rz:0<m:=by omega
  have hmd:decide (0<m)=true:=decide_eq_true Rz;clear hmm;obtain⟨_,⟨g0,g1,g2,g3⟩,⟨g4,g5,g6⟩,g7,g8,g9⟩:=HGB.out.at;simp only[jaf]at g0 g1 g2 g3 g4 g5 g6 g7 g8 g9;go_wp2_with fail;refine(Mx.out _ HBG.out).mono ?_;rintro e w3 ⟨rfl,aP⟩;have bM:=ae (ai HBG.out aP);have UK:=ae (HGB.out.kept aP);clear aP g0 g1 g2 g3 g4 g5 g6 g7 g8 g9;go_wp2_with fail;refine(HMI.out _ bM.out).mono ?_;rintro e w4 ⟨rfl,bv⟩;have b9:=ae (ai bM.out bv);have SW:=ae (UK.out.kept bv);clear bv;go_wp2_with fail;refine(VS.out _).mono ?_;rintro e w5 ⟨rfl,bq⟩;have aR:=ae (ai b9.out bq);have My:=ae (SW.out.kept bq);clear bq;obtain⟨_,⟨g0,g1,g2,g3⟩,⟨g4,g5,g6⟩,g7,g8,g9⟩:=My.out.at;simp only[jaf]at g0 g1 g2 g3 g4 g5 g6 g7 g8 g9;have fg:=My.out.frozen;go_wp2_with fail;have dN:Below w2.heap.size w2 (((w5.setCell ⟨w2.heap.size,4,none⟩ (.int .u8 (lo.1:Int))).setCell ⟨w2.heap.size,5,none⟩ (.int .i64 lo.2.1)).setCell ⟨w2.heap.size,6,none⟩ (.string (am lo.2.2))):=fh (fh (fh aR.out (ZR _) _ _) (ZR _) _ _) (ZR _) _ _;have i5:=ae dN;have kB:=ae (My.out.lo lo);clear dN fg g0 g1 g2 g3 g4 g5 g6 g7 g8 g9;refine(HMA.out _ i5.out).mono ?_;rintro e w7 ⟨rfl,jd⟩;have ia:=ae (ai i5.out jd);have HG7:=ae (kB.out.kept jd);clear jd;go_wp2_with fail;refine(HHI.out _).mono ?_;rintro e w8 ⟨rfl,kA⟩;have p6:=ae (ai ia.out kA);have Zr:=ae (HG7.out.kept kA);clear kA;obtain⟨_,⟨g0,g1,g2,g3⟩,⟨g4,g5,g6⟩,g7,g8,g9⟩:=Zr.out.at;obtain⟨_,⟨r0,r1,r2,r3⟩,⟨r4,r5,r6⟩,r7,r8,r9⟩:=(X9.out _ p6.out).2.at;simp only[jaf]at g0 g1 g2 g3 g4 g5 g6 g7 g8 g9 r0 r1 r2 r3 r4 r5 r6 r7 r8 r9;have fg:=Zr.out.frozen;have fz:=(X9.out _ p6.out).2.frozen;have fO:¬ w2.heap.size=w.heap.size:=by have:=na.out;omega
  have yk:¬ w.heap.size=w2.heap.size:=by have:=na.out;omega
  have sU:=ae (ai m9.out p6.out);have ui:Hid (w.heap.size<=w2.heap.size):=ae (by have:=na.out;omega);go_wp2_with fail;refine bodyPost_ret (v:=.agg #[.int .i64 (cs.length:Int),.int .i64 ((cs.length:Int)-(m:Int)),.bool true,.bool hib,.int .u8 (lo.1:Int),.int .i64 lo.2.1,.string (am lo.2.2),.int .u8 (hi.1:Int),.int .i64 hi.2.1,.string (am hi.2.2)]) (by simp[results,Tryz.results59,go_sem,fO,yk,r0,r1,r2,r3,r4,r5,r6,r7,r8,r9]) rfl ⟨?_,?_⟩
  ·rw[cP.out]
   rfl
  ·exact P4 (fh (fh (fh (fh sU.out ui.out _ _) ui.out _ _) ui.out _ _) ui.out _ _) (ZR _) _ _ _ _ _ _ _ _ _ _
theorem om(l:List UInt8):(nb l).length=l.length:=by simp[nb]
theorem qM{rs:List Nat}:∀ i,eH (rs.map eu) i<=4*i
 | 0=>by simp
 | i+1=>by
  have:=qM (rs:=rs) i;by_cases h:i<rs.length
  ·have hd:(rs.map eu).drop i=eu rs[i]::(rs.map eu).drop (i+1):=by
    rw[jar (by simpa using h)];simp
   rw[yo hd];have:=ic rs[i];have h2:(eu rs[i]).2=(dO rs[i]).length:=rfl;omega
  ·have h1:=qr (rs.map eu) i (by simp;omega)
   have h2:=qr (rs.map eu) (i+1) (by simp;omega);omega
theorem F3{l a:List UInt8}(h:gG l 4=some a)(hl:l.length<=64):a.length<=64:=by
 have h0:=h;rw[wn]at h;unfold dV at h;split at h
 ·split at h
  ·obtain rfl:=Option.some.inj h;omega
  ·split at h
   ·cases h
   ·next hc _ _ =>
    have hv:=zX hc;unfold upL at h;cases hg:gT (V l) (4:Int).toNat with
    | none=>rw[hg]at h;cases h
    | some i =>
     rw[hg]at h;have hi:=(qt hg).1;simp only[jaS,Option.some.injEq]at h;subst h;have:=ic (nx ((V l).getD i (0,0)).1);have:=qM (rs:=iF l) i;rw[← hv]at this;have h4:(4:Int).toNat=4:=rfl;simp only[ZT,ZX];omega
 ·cases h
theorem Lc{x:Cl}(hf:aU x)(cl:Bool):aU (nw x cl):=by
 unfold nw;by_cases h:x.1=3/\cl=false
 ·rw[if_pos h]
  exact Or.inr (Or.inr (Or.inr ⟨[],rfl,by simp,fun x hx=>by simp at hx⟩))
 ·rw[if_neg h]
  have he:nb (bV (lb (am ([]:List Nat))) 4)=[]:=by
   have:lb (am ([]:List Nat))=[]:=rfl;rw[this];simp[bV,nb]
  rcases hf with rfl | ⟨n,rfl,hn⟩ | ⟨n,rfl,hn⟩ | ⟨s,rfl,hl,hs⟩
  ·refine Or.inl ?_
   show ((0:Nat),(0:Int),nb (bV (lb (am ([]:List Nat))) 4))=nul
   rw[he];rfl
  ·refine Or.inr (Or.inl ⟨n,?_,hn⟩)
   show ((1:Nat),n,nb (bV (lb (am ([]:List Nat))) 4))=_
   rw[he]
  ·refine Or.inr (Or.inr (Or.inl ⟨n,?_,hn⟩))
   show ((2:Nat),(n:Int),nb (bV (lb (am ([]:List Nat))) 4))=_
   rw[he]
  ·refine Or.inr (Or.inr (Or.inr ⟨_,rfl,?_,Vu _⟩))
   rw[om];show (bV (lb (am s)) 4).length<=64
   have:=pD (lb (am s)) 4;have h2:(lb (am s)).length=s.length:=by rw[cG,bi]
   omega
theorem F4{x:Cl}(hf:aU x)(cl:Bool):aU (gp x cl).1:=by
 unfold gp;by_cases h:x.1=3
 ·rw[if_pos h]
  cases ha:gG (lb (am x.2.2)) 4 with
  | none=>exact Or.inl rfl
  | some a =>
   simp only;cases cl
   ·exact Or.inl rfl
   ·refine Or.inr (Or.inr (Or.inr ⟨_,rfl,?_,Vu _⟩))
    rw[om];refine F3 ha ?_;rw[cG];exact hf.short
 ·rw[if_neg h]
  exact hf
theorem kp{cs:List Cl}(hf:∀ c∈cs,aU c):aU (ct cs).lo/\aU (ct cs).hi:=by
 have J7:∀ c∈aY cs,aU c:=fun c hc=>hf c (by unfold aY at hc;exact(jbq.1 hc).1)
 unfold ct;cases hn:aY cs with
 | nil=>exact⟨Or.inl rfl,Or.inl rfl⟩
 | cons y r =>
  rw[hn]at J7;have hy:=J7 y (by simp);have hr:∀ c∈r,aU c:=fun c hc=>J7 c (by simp[hc])
  exact⟨Lc (lN hy hr) _,F4 (nt hy hr) _⟩
end Go.Proofs.YtpljdjmpamjkhaaGreatDoor
