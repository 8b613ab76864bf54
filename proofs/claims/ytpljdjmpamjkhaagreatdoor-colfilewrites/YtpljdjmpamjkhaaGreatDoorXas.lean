import Derived.Test.YtpljdjmpamjkhaaGreatDoorXar
set_option linter.unusedVariables false
set_option linter.unusedSimpArgs false
set_option maxRecDepth 100000
set_option maxHeartbeats 8000000
namespace Go.Proofs.YtpljdjmpamjkhaaGreatDoor
open Go.RowKit Go.Lib
def nb(l:List UInt8):List Nat:=l.map UInt8.toNat
theorem Nn(l:List UInt8):ak (nb l)=⟨l.toArray⟩:=by
 unfold ak nb;congr 1
 rw[jd8];have:(Nat.toUInt8 ∘ UInt8.toNat)=id:=by funext x;simp
 rw[this,jev]
theorem lb_nb(l:List UInt8):lb (ak (nb l))=l:=by rw[Nn];rfl
theorem Ln{t:ByteArray}{l:List UInt8}(h:lb t=l):t=ak (nb l):=GL (by rw[lb_nb,h])
theorem YY(l:List UInt8):Bs (nb l):=fun x hx=>by
 unfold nb at hx;obtain⟨y,_,rfl⟩:=jdR.1 hx;exact UInt8.toNat_lt y
def nP(x:Cl)(cl:Bool):Cl:=if x.1=3/\cl=false then (3,0,[]) else (x.1,x.2.1,nb (bW (lb (ak x.2.2)) 4))
def gF(x:Cl)(cl:Bool):Cl×Bool:=if x.1=3 then (match gQ (lb (ak x.2.2)) 4 with
 | none=>(nul,false)
 | some a=>if cl=true then ((3,0,nb a),true) else (nul,false)) else (x,true)
def Ceb(W:World)(p:Nat)(x y z:Value):Prop:=W.heap[p]?=some (.cells #[x,y,z] 52 (0,0))
theorem Ceb.facts{W:World}{p:Nat}{x y z:Value}(h:Ceb W p x y z):(W.cell? ⟨p,0,none⟩=some x/\W.cell? ⟨p,1,none⟩=some y/\W.cell? ⟨p,2,none⟩=some z)/\(W.frozen? ⟨p,0,none⟩=false/\W.frozen? ⟨p,1,none⟩=false/\W.frozen? ⟨p,2,none⟩=false)/\p<W.heap.size:=by
 unfold Ceb at h;refine⟨⟨by rw[ay h];rfl,by rw[ay h];rfl,by rw[ay h];rfl⟩,⟨by simp[World.frozen?,h],by simp[World.frozen?,h],by simp[World.frozen?,h]⟩,(Array.getElem?_eq_some_iff.1 h).1⟩
theorem Ceb.kept{W W':World}{p:Nat}{x y z:Value}(h:Ceb W p x y z)(hb:Below W.heap.size W W'):Ceb W' p x y z:=by
 have hp:=h.facts.2.2;unfold Ceb at *;rw[hb.block p hp];exact h
theorem Ceb.new(w:World)(x y z:Value):Ceb (w.alloc (.cells #[x,y,z] 52)) w.heap.size x y z:=jdW w _
theorem Bc{x:Cl}(hf:aT x)(cl:Bool)(w:World):Calls Tryz.prog 103 #[cY x,.bool cl] w fun e w'=>e=.returned (.agg #[.int .u8 ((nP x cl).1:Int),.int .i64 (nP x cl).2.1,.string (ak (nP x cl).2.2)])/\Below w.heap.size w w':=by
 have HF:=ae hf;have hr:=Ceb.new w (.int .u8 0) (.int .i64 0) (.string ⟨#[]⟩);have dO:=am w (.cells #[.int .u8 0,.int .i64 0,.string ⟨#[]⟩] 52);have HD:jfp (nP x cl=if x.1=3/\cl=false then (3,0,[]) else (x.1,x.2.1,nb (bW (lb (ak x.2.2)) 4))):=ae rfl;generalize nP x cl=R at *;have HR:=ae hr;have ce:=ae dO;have HZ:jfp (w.heap.size<(w.alloc (.cells #[.int .u8 0,.int .i64 0,.string ⟨#[]⟩] 52)).heap.size):=ae hr.facts.2.2;clear hf hr dO;go_enter Tryz.func103,Tryz.ntmps103
 go_wp2_with fail;refine(lK HF.o.val _).mono ?_;rintro e w1 ⟨rfl,aH⟩;have aQ:=ae (ai ce.o aH);have sg:=ae (HR.o.kept aH);have cP:w.heap.size<w1.heap.size:=jdS HZ.o aH.size;clear aH HR;have zY:=Ceb.new w1 (.int .u8 (x.1:Int)) (.int .i64 x.2.1) (.string (ak x.2.2));have aE:=am w1 (.cells #[.int .u8 (x.1:Int),.int .i64 x.2.1,.string (ak x.2.2)] 52);have kP:=ae zY;have jb:=ae (sg.o.kept aE);have aO:=ae (ai aQ.o aE);obtain⟨⟨d0,d1,d2⟩,⟨f0,f1,f2⟩,_⟩:=zY.facts;obtain⟨⟨r0,r1,r2⟩,⟨s0,s1,s2⟩,_⟩:=jb.o.facts;have fF:¬ w1.heap.size=w.heap.size:=by omega
 have yF:¬ w.heap.size=w1.heap.size:=by omega
 clear zY aE sg;generalize hW:w1.alloc (.cells #[.int .u8 (x.1:Int),.int .i64 x.2.1,.string (ak x.2.2)] 52)=W at *;by_cases h3:x.1=3/\cl=false
 ·rw[jdu h3]at HD
  obtain⟨h3a,rfl⟩:=h3;have h3':((x.1:Int)==3)=true:=by rw[h3a];rfl
  clear h3a;go_wp2_with fail;refine bodyPost_ret (v:=.agg #[.int .u8 3,.int .i64 0,.string ⟨#[]⟩]) (by simp[results,Tryz.results103,go_sem,r0,r1,r2]) rfl ⟨?_,set3 aO.o (jdw _) _ _ _⟩;rw[HD.o];rfl
 ·rw[jdt h3]at HD
  have Cb:=ae (zc (ak x.2.2) 4 (by have:=HF.o.short;omega))
  have xP:((x.1:Int)==3)=false∨(((x.1:Int)==3)=true/\cl=true):=by
   by_cases hx:x.1=3
   ·right
    refine⟨by rw[hx];rfl,?_⟩;cases cl
    ·exact absurd ⟨hx,rfl⟩ h3
    ·rfl
   ·left
    exact jdG.2 (by omega)
  clear h3;rcases xP with h3' | ⟨h3',rfl⟩
  all_goals
   go_wp2_with fail;refine(Cb.o _).mono ?_;rintro e w3 ⟨⟨t,rfl,ht⟩,aS⟩;have xQ:=ae (Ln ht);obtain⟨⟨d0',d1',d2'⟩,⟨f0',f1',f2'⟩,_⟩:=(kP.o.kept aS).facts;obtain⟨⟨r0',r1',r2'⟩,⟨s0',s1',s2'⟩,_⟩:=(jb.o.kept aS).facts;have bP:=ae (ai aO.o aS);have HZZ:jfp (w.heap.size<=w1.heap.size):=ae (by omega);clear aS ht d0 d1 d2 f0 f1 f2 r0 r1 r2 s0 s1 s2 hW;go_wp2_with fail;refine bodyPost_ret (v:=.agg #[.int .u8 (x.1:Int),.int .i64 x.2.1,.string t]) (by simp[results,Tryz.results103,go_sem,r0',r1',r2',fF,yF]) rfl ⟨?_,set3 (bP.o.setCell (p:=⟨w1.heap.size,2,none⟩) HZZ.o _) (jdw _) _ _ _⟩;rw[HD.o,xQ.o]
theorem yg{x:Cl}(hf:aT x)(cl:Bool)(w:World):Calls Tryz.prog 106 #[cY x,.bool cl] w fun e w'=>e=.returned (.tuple #[.agg #[.int .u8 ((gF x cl).1.1:Int),.int .i64 (gF x cl).1.2.1,.string (ak (gF x cl).1.2.2)],.bool (gF x cl).2])/\Below w.heap.size w w':=by
 have HF:=ae hf;have hr:=Ceb.new w (.int .u8 0) (.int .i64 0) (.string ⟨#[]⟩);have dO:=am w (.cells #[.int .u8 0,.int .i64 0,.string ⟨#[]⟩] 52)
 have HD:jfp (gF x cl=if x.1=3 then (match gQ (lb (ak x.2.2)) 4 with
  | none=>(nul,false)
  | some a=>if cl=true then ((3,0,nb a),true) else (nul,false)) else (x,true)):=ae rfl
 generalize gF x cl=R at *;have HR:=ae hr;have ce:=ae dO;have HZ:jfp (w.heap.size<(w.alloc (.cells #[.int .u8 0,.int .i64 0,.string ⟨#[]⟩] 52)).heap.size):=ae hr.facts.2.2;clear hf hr dO;go_enter Tryz.func106,Tryz.ntmps106
 go_wp2_with fail;refine(lK HF.o.val _).mono ?_;rintro e w1 ⟨rfl,aH⟩;have aQ:=ae (ai ce.o aH);have sg:=ae (HR.o.kept aH);have cP:w.heap.size<w1.heap.size:=jdS HZ.o aH.size;clear aH HR;have zY:=Ceb.new w1 (.int .u8 (x.1:Int)) (.int .i64 x.2.1) (.string (ak x.2.2));have aE:=am w1 (.cells #[.int .u8 (x.1:Int),.int .i64 x.2.1,.string (ak x.2.2)] 52);have kP:=ae zY;have jb:=ae (sg.o.kept aE);have aO:=ae (ai aQ.o aE);obtain⟨⟨d0,d1,d2⟩,⟨f0,f1,f2⟩,_⟩:=zY.facts;obtain⟨⟨r0,r1,r2⟩,⟨s0,s1,s2⟩,_⟩:=jb.o.facts;clear zY aE sg;generalize hW:w1.alloc (.cells #[.int .u8 (x.1:Int),.int .i64 x.2.1,.string (ak x.2.2)] 52)=W at *;by_cases h3:x.1=3
 ·rw[jdu h3]at HD
  have h3':((x.1:Int) != 3)=false:=by rw[h3];rfl
  have Zt:=ae (ML (ak x.2.2) 4 (by have:=HF.o.short;omega));clear h3;go_wp2_with fail;refine(Zt.o _).mono ?_;rintro e w3 ⟨⟨t,o,rfl,ho,ht⟩,aS⟩;obtain⟨⟨r0',r1',r2'⟩,⟨s0',s1',s2'⟩,_⟩:=(jb.o.kept aS).facts;have bP:=ae (ai aO.o aS);clear aS d0 d1 d2 f0 f1 f2 r0 r1 r2 s0 s1 s2 hW;cases ha:gQ (lb (ak x.2.2)) 4 with
  | none =>
   rw[ha]at HD ho;have ho':o=false:=ho;subst ho';clear ha ho ht;simp only at HD;go_wp2_with fail;refine bodyPost_ret (v:=.tuple #[.agg #[.int .u8 0,.int .i64 0,.string ⟨#[]⟩],.bool false]) (by simp[results,Tryz.results106,go_sem,r0',r1',r2']) rfl ⟨?_,set3 bP.o (jdw _) _ _ _⟩;rw[HD.o];rfl
  | some av =>
   rw[ha]at HD ho ht;have ho':o=true:=ho;subst ho';have xQ:=ae (Ln (show lb t=av from ht));clear ha ho ht;simp only at HD;cases cl
   ·go_wp2_with fail
    refine bodyPost_ret (v:=.tuple #[.agg #[.int .u8 0,.int .i64 0,.string ⟨#[]⟩],.bool false]) (by simp[results,Tryz.results106,go_sem,r0',r1',r2']) rfl ⟨?_,set3 bP.o (jdw _) _ _ _⟩;rw[HD.o];rfl
   ·go_wp2_with fail
    refine bodyPost_ret (v:=.tuple #[.agg #[.int .u8 3,.int .i64 0,.string t],.bool true]) (by simp[results,Tryz.results106,go_sem,r0',r1',r2']) rfl ⟨?_,set3 bP.o (jdw _) _ _ _⟩;rw[HD.o,xQ.o];rfl
 ·rw[jdt h3]at HD
  have h3':((x.1:Int) != 3)=true:=by simp;omega
  clear h3;go_wp2_with fail;refine bodyPost_ret (v:=.tuple #[.agg #[.int .u8 (x.1:Int),.int .i64 x.2.1,.string (ak x.2.2)],.bool true]) (by simp[results,Tryz.results106,go_sem,r0,r1,r2]) rfl ⟨?_,set3 aO.o (jdw _) _ _ _⟩;rw[HD.o]
def cA(cs:List Cl):Stt:=match aZ cs with
 | []=>⟨cs.length,cs.length,false,false,nul,nul⟩
 | x::r=>⟨cs.length,(cs.length:Int)-((x::r).length:Nat),true,(gF (eE x r) ((x::r).all eM)).2,nP (gh x r) ((x::r).all eM),(gF (eE x r) ((x::r).all eM)).1⟩
theorem Stb.kept{W W':World}{p:Nat}{st:Stt}(h:Stb W p st)(hb:Below W.heap.size W W'):Stb W' p st:=by
 have hp:=h.at.1;unfold Stb at *;rw[hb.block p hp];exact h
theorem Stb.frozen{W:World}{p:Nat}{st:Stt}(h:Stb W p st)(i:Nat):W.frozen? ⟨p,i,none⟩=false:=by
 unfold Stb at h;simp[World.frozen?,h]
theorem Stb.lo{W:World}{p:Nat}{st:Stt}(h:Stb W p st)(c:Cl):Stb (((W.setCell ⟨p,4,none⟩ (.int .u8 (c.1:Int))).setCell ⟨p,5,none⟩ (.int .i64 c.2.1)).setCell ⟨p,6,none⟩ (.string (ak c.2.2))) p { st with lo:=c }:=by
 unfold Stb at *;rw[cK (cK (cK h 4 _) 5 _) 6 _];rfl
theorem Stb.other{W:World}{p q:Nat}{st:Stt}(h:Stb W q st)(hn:q≠p)(i:Nat)(v:Value):Stb (W.setCell ⟨p,i,none⟩ v) q st:=by
 unfold Stb at *;rw[heap_setCell_other _ ⟨p,i,none⟩ q _ hn];exact h
theorem fy{B:Nat}{w W:World}(h:Below B w W){p:Nat}(hp:B<=p)(i:Nat)(x:Value):Below B w (W.setCell ⟨p,i,none⟩ x):=h.setCell (p:=⟨p,i,none⟩) hp _
theorem Tc{B:Nat}{w W:World}(h:Below B w W){p:Nat}(hp:B<=p)(x0 x1 x2 x3 x4 x5 x6 x7 x8 x9:Value):Below B w ((((((((((W.setCell ⟨p,0,none⟩ x0).setCell ⟨p,1,none⟩ x1).setCell ⟨p,2,none⟩ x2).setCell ⟨p,3,none⟩ x3).setCell ⟨p,4,none⟩ x4).setCell ⟨p,5,none⟩ x5).setCell ⟨p,6,none⟩ x6).setCell ⟨p,7,none⟩ x7).setCell ⟨p,8,none⟩ x8).setCell ⟨p,9,none⟩ x9) :=
 fy (fy (fy (fy (fy (fy (fy (fy (fy (fy h hp _ _) hp _ _) hp _ _) hp _ _) hp _ _) hp _ _) hp _ _) hp _ _) hp _ _) hp _ _
def stZ:Stt:=⟨0,0,false,false,nul,nul⟩
theorem zE{w:World}{v:Value}{cs:List Cl}(hs:Sv w v (aI cs))(hf:∀ c∈cs,aT c)(hl:cs.length<=1000):Calls Tryz.prog 59 #[v] w fun e w'=>e=.returned (ux (cA cs))/\Below w.heap.size w w':=by
 have HF:=ae hf;have ct:=Stb.new w stZ;have dO:=am w (.cells #[.int .i64 0,.int .i64 0,.bool false,.bool false,.int .u8 0,.int .i64 0,.string ⟨#[]⟩,.int .u8 0,.int .i64 0,.string ⟨#[]⟩] 54);have hz0':Stb (w.alloc (.cells #[.int .i64 0,.int .i64 0,.bool false,.bool false,.int .u8 0,.int .i64 0,.string ⟨#[]⟩,.int .u8 0,.int .i64 0,.string ⟨#[]⟩] 54)) w.heap.size stZ:=ct;have lF:=ae (hs.kept dO);obtain⟨a,cap,rfl,aW,bw⟩:=hs.form1;rw[aG]at *;have HZ0:=ae hz0';have ce:=ae dO;have sA:(w.alloc (.cells #[.int .i64 0,.int .i64 0,.bool false,.bool false,.int .u8 0,.int .i64 0,.string ⟨#[]⟩,.int .u8 0,.int .i64 0,.string ⟨#[]⟩] 54)).heap.size=w.heap.size+1:=jdx _ _;have qn:=ae sA;clear hs hf ct dO hz0' sA;generalize hA:w.alloc (.cells #[.int .i64 0,.int .i64 0,.bool false,.bool false,.int .u8 0,.int .i64 0,.string ⟨#[]⟩,.int .u8 0,.int .i64 0,.string ⟨#[]⟩] 54)=A at *;have HL:=ae hl;clear hl;go_enter Tryz.func59,Tryz.ntmps59
 go_wp2_with fail;try rw[hA]
 refine(pY lF.o HL.o).mono ?_;rintro e w1 ⟨⟨v1,rfl,eH⟩,aH⟩;have eY:=ae eH;have aQ:=ae aH;clear eH aH hA;go_wp2_with fail;refine(wT eY.o HF.o aQ.o.size).mono ?_;rintro e w2 ⟨⟨v2,rfl,dN⟩,aE⟩;have aO:=ae (aQ.o.trans aE);have gl:=ae dN;have PS:jfp (∀ c∈aZ cs,aT c):=ae (fun c hc=>HF.o c (by unfold aZ at hc;exact(jfg.1 hc).1));obtain⟨a2,cap2,rfl,UF,yx⟩:=dN.form1;rw[aG]at *
 have cU:jfp (cA cs=match aZ cs with
  | []=>⟨cs.length,cs.length,false,false,nul,nul⟩
  | x::r=>⟨cs.length,(cs.length:Int)-((x::r).length:Nat),true,(gF (eE x r) ((x::r).all eM)).2,nP (gh x r) ((x::r).all eM),(gF (eE x r) ((x::r).all eM)).1⟩):=ae rfl
 have HNL:jfp ((aZ cs).length<=cs.length):=ae (je4 _ _);clear aE dN eY aQ lF;generalize aZ cs=ns at *;have LU:=ae (HZ0.o.kept aO.o);have nA:=ae (ai ce.o aO.o);have nB:jfp (w.heap.size<w2.heap.size):=ae LU.o.at.1;clear HZ0 ce aO bw yx;cases ns with
 | nil =>
  simp only at cU;simp only[jdX]at *;have hSb:=Stb.new w2 ⟨cs.length,cs.length,false,false,nul,nul⟩;have hSb':Stb (w2.alloc (.cells #[.int .i64 (cs.length:Int),.int .i64 (cs.length:Int),.bool false,.bool false,.int .u8 0,.int .i64 0,.string ⟨#[]⟩,.int .u8 0,.int .i64 0,.string ⟨#[]⟩] 54)) w2.heap.size ⟨cs.length,cs.length,false,false,nul,nul⟩:=hSb;clear hSb;have HSb:=ae hSb';have hbG:=am w2 (.cells #[.int .i64 (cs.length:Int),.int .i64 (cs.length:Int),.bool false,.bool false,.int .u8 0,.int .i64 0,.string ⟨#[]⟩,.int .u8 0,.int .i64 0,.string ⟨#[]⟩] 54);have hZG:=LU.o.kept hbG;have UE:wrap64 (cs.length:Int)=(cs.length:Int):=by have:=HL.o;unfold wrap64;omega
  obtain⟨_,⟨r0,r1,r2,r3⟩,⟨r4,r5,r6⟩,r7,r8,r9⟩:=LU.o.at;obtain⟨_,⟨q0,q1,q2,q3⟩,⟨q4,q5,q6⟩,q7,q8,q9⟩:=hZG.at;simp only[jdZ]at r0 r1 r2 r3 r4 r5 r6 r7 r8 r9 q0 q1 q2 q3 q4 q5 q6 q7 q8 q9;have fz:=LU.o.frozen;have fg:=hZG.frozen;have qs:=nB.o;have xN:∀(X:World) (o:Obj) (i:Nat),w.heap.size<X.heap.size->(X.alloc o).cell? ⟨w.heap.size,i,none⟩=X.cell? ⟨w.heap.size,i,none⟩:=fun X o i h=>(am X o).cell h
  have Kz:=Tc nA.o (jdw _) (.int .i64 (cs.length:Int)) (.int .i64 (cs.length:Int)) (.bool false) (.bool false) (.int .u8 0) (.int .i64 0) (.string ⟨#[]⟩) (.int .u8 0) (.int .i64 0) (.string ⟨#[]⟩);have HSET:=ae Kz;clear hSb' Kz hbG hZG;go_wp2_with fail;refine bodyPost_ret (v:=.agg #[.int .i64 (cs.length:Int),.int .i64 (cs.length:Int),.bool false,.bool false,.int .u8 0,.int .i64 0,.string ⟨#[]⟩,.int .u8 0,.int .i64 0,.string ⟨#[]⟩]) (by simp[results,Tryz.results59,go_sem,xN,qs,r0,r1,r2,r3,r4,r5,r6,r7,r8,r9]) rfl ⟨?_,?_⟩
  ·rw[cU.o]
   rfl
  ·exact HSET.o.alloc HSET.o.size _
 | cons x r =>
  simp only at cU;have hmp:(0:Int)<((x::r).length:Int):=by simp only[jdD];omega
  have PR:Stb (w2.alloc (.cells #[.int .i64 (cs.length:Int),.int .i64 ((cs.length:Int)-((x::r).length:Int)),.bool true,.bool false,.int .u8 0,.int .i64 0,.string ⟨#[]⟩,.int .u8 0,.int .i64 0,.string ⟨#[]⟩] 54)) w2.heap.size ⟨cs.length,(cs.length:Int)-((x::r).length:Int),true,false,nul,nul⟩:=Stb.new w2 ⟨cs.length,(cs.length:Int)-((x::r).length:Int),true,false,nul,nul⟩;have hbG:=am w2 (.cells #[.int .i64 (cs.length:Int),.int .i64 ((cs.length:Int)-((x::r).length:Int)),.bool true,.bool false,.int .u8 0,.int .i64 0,.string ⟨#[]⟩,.int .u8 0,.int .i64 0,.string ⟨#[]⟩] 54);have HGB:=ae PR;have HBG:=ae hbG;have UE:wrap64 ((cs.length:Int)-((x::r).length:Int))=(cs.length:Int)-((x::r).length:Int):=by have:=HL.o;have:=HNL.o;unfold wrap64;omega
  have HSG:jfp (∀ U,Below w2.heap.size w2 U->Sv U (.slice a2 (x::r).length cap2) (aI (x::r))/\Stb U w.heap.size stZ):=ae (fun U h=>⟨gl.o.kept h,LU.o.kept h⟩);have QC:jfp (aT x):=ae (PS.o x (by simp));have ng:jfp (∀ c∈r,aT c):=ae (fun c hc=>PS.o c (by simp[hc]));have HFMI:jfp (aT (gh x r)):=ae (lY QC.o ng.o);have HFMA:jfp (aT (eE x r)):=ae (nO QC.o ng.o);have PU:=ae (fun U (h:Below w2.heap.size w2 U)=>wU (HSG.o U h).1 PS.o);have HMI:jfp (∀ U,Below w2.heap.size w2 U->Calls Tryz.prog 104 #[.slice a2 (x::r).length cap2,.func (.func 105) #[] #[]] U fun e w'=>e=.returned (cY (gh x r))/\Below U.heap.size U w'):=ae (fun U h=>Ta (HSG.o U h).1 PS.o (by simp));have HMA:jfp (∀ U,Below w2.heap.size w2 U->Calls Tryz.prog 107 #[.slice a2 (x::r).length cap2,.func (.func 105) #[] #[]] U fun e w'=>e=.returned (cY (eE x r))/\Below U.heap.size U w'):=ae (fun U h=>Tb (HSG.o U h).1 PS.o (by simp));obtain⟨cl,eQ⟩:∃ cl,cl=(x::r).all eM:=⟨_,rfl⟩;rw[← eQ]at cU PU;clear eQ PR hbG;generalize gh x r=mi at *;generalize eE x r=ma at *;have Zu:=ae (Bc HFMI.o cl);have HHI:=ae (yg HFMA.o cl);generalize nP mi cl=lo at *;generalize gF ma cl=hi at *;obtain⟨hi,hib⟩:=hi;simp only at cU HHI;generalize hmm:(x::r).length=m at *;have Qy:0<m:=by omega
  have hmd:decide (0<m)=true:=jdO Qy;clear hmm;obtain⟨_,⟨g0,g1,g2,g3⟩,⟨g4,g5,g6⟩,g7,g8,g9⟩:=HGB.o.at;simp only[jdZ]at g0 g1 g2 g3 g4 g5 g6 g7 g8 g9;go_wp2_with fail;refine(PU.o _ HBG.o).mono ?_;rintro e w3 ⟨rfl,aS⟩;have bP:=ae (ai HBG.o aS);have Yk:=ae (HGB.o.kept aS);clear aS g0 g1 g2 g3 g4 g5 g6 g7 g8 g9;go_wp2_with fail;refine(HMI.o _ bP.o).mono ?_;rintro e w4 ⟨rfl,bK⟩;have cx:=ae (ai bP.o bK);have VY:=ae (Yk.o.kept bK);clear bK;go_wp2_with fail;refine(Zu.o _).mono ?_;rintro e w5 ⟨rfl,bD⟩;have aR:=ae (ai cx.o bD);have PW:=ae (VY.o.kept bD);clear bD;obtain⟨_,⟨g0,g1,g2,g3⟩,⟨g4,g5,g6⟩,g7,g8,g9⟩:=PW.o.at;simp only[jdZ]at g0 g1 g2 g3 g4 g5 g6 g7 g8 g9;have fg:=PW.o.frozen;go_wp2_with fail;have ey:Below w2.heap.size w2 (((w5.setCell ⟨w2.heap.size,4,none⟩ (.int .u8 (lo.1:Int))).setCell ⟨w2.heap.size,5,none⟩ (.int .i64 lo.2.1)).setCell ⟨w2.heap.size,6,none⟩ (.string (ak lo.2.2))):=fy (fy (fy aR.o (jdw _) _ _) (jdw _) _ _) (jdw _) _ _;have ja:=ae ey;have kK:=ae (PW.o.lo lo);clear ey fg g0 g1 g2 g3 g4 g5 g6 g7 g8 g9;refine(HMA.o _ ja.o).mono ?_;rintro e w7 ⟨rfl,ji⟩;have io:=ae (ai ja.o ji);have HG7:=ae (kK.o.kept ji);clear ji;go_wp2_with fail;refine(HHI.o _).mono ?_;rintro e w8 ⟨rfl,lD⟩;have xD:=ae (ai io.o lD);have HG8:=ae (HG7.o.kept lD);clear lD;obtain⟨_,⟨g0,g1,g2,g3⟩,⟨g4,g5,g6⟩,g7,g8,g9⟩:=HG8.o.at;obtain⟨_,⟨r0,r1,r2,r3⟩,⟨r4,r5,r6⟩,r7,r8,r9⟩:=(HSG.o _ xD.o).2.at;simp only[jdZ]at g0 g1 g2 g3 g4 g5 g6 g7 g8 g9 r0 r1 r2 r3 r4 r5 r6 r7 r8 r9;have fg:=HG8.o.frozen;have fz:=(HSG.o _ xD.o).2.frozen;have fF:¬ w2.heap.size=w.heap.size:=by have:=nB.o;omega
  have yF:¬ w.heap.size=w2.heap.size:=by have:=nB.o;omega
  have tp:=ae (ai nA.o xD.o);have uD:jfp (w.heap.size<=w2.heap.size):=ae (by have:=nB.o;omega);go_wp2_with fail;refine bodyPost_ret (v:=.agg #[.int .i64 (cs.length:Int),.int .i64 ((cs.length:Int)-(m:Int)),.bool true,.bool hib,.int .u8 (lo.1:Int),.int .i64 lo.2.1,.string (ak lo.2.2),.int .u8 (hi.1:Int),.int .i64 hi.2.1,.string (ak hi.2.2)]) (by simp[results,Tryz.results59,go_sem,fF,yF,r0,r1,r2,r3,r4,r5,r6,r7,r8,r9]) rfl ⟨?_,?_⟩
  ·rw[cU.o]
   rfl
  ·exact Tc (fy (fy (fy (fy tp.o uD.o _ _) uD.o _ _) uD.o _ _) uD.o _ _) (jdw _) _ _ _ _ _ _ _ _ _ _
theorem oM(l:List UInt8):(nb l).length=l.length:=by simp[nb]
theorem rk{rs:List Nat}:∀ i,eJ (rs.map eu) i<=4*i
 | 0=>by simp
 | i+1=>by
  have:=rk (rs:=rs) i;by_cases h:i<rs.length
  ·have hd:(rs.map eu).drop i=eu rs[i]::(rs.map eu).drop (i+1):=by
    rw[jec (by simpa using h)];simp
   rw[yK hd];have:=ip rs[i];have h2:(eu rs[i]).2=(dT rs[i]).length:=rfl;omega
  ·have h1:=qJ (rs.map eu) i (by simp;omega)
   have h2:=qJ (rs.map eu) (i+1) (by simp;omega);omega
theorem Ht{l a:List UInt8}(h:gQ l 4=some a)(hl:l.length<=64):a.length<=64:=by
 have h0:=h;rw[wP]at h;unfold dZ at h;split at h
 ·split at h
  ·obtain rfl:=Option.some.inj h;omega
  ·split at h
   ·cases h
   ·next hc _ _ =>
    have hv:=Aq hc;unfold upL at h;cases hg:ib (V l) (4:Int).toNat with
    | none=>rw[hg]at h;cases h
    | some i =>
     rw[hg]at h;have hi:=(qL hg).1;simp only[jeF,Option.some.injEq]at h;subst h;have:=ip (nx ((V l).getD i (0,0)).1);have:=rk (rs:=iK l) i;rw[← hv]at this;have h4:(4:Int).toNat=4:=rfl;simp only[jdy,jdC];omega
 ·cases h
theorem Np{x:Cl}(hf:aT x)(cl:Bool):aT (nP x cl):=by
 unfold nP;by_cases h:x.1=3/\cl=false
 ·rw[jdu h]
  exact Or.inr (Or.inr (Or.inr ⟨[],rfl,by simp,fun x hx=>by simp at hx⟩))
 ·rw[jdt h]
  have he:nb (bW (lb (ak ([]:List Nat))) 4)=[]:=by
   have:lb (ak ([]:List Nat))=[]:=rfl;rw[this];simp[bW,nb]
  rcases hf with rfl | ⟨n,rfl,hn⟩ | ⟨n,rfl,hn⟩ | ⟨s,rfl,hl,hs⟩
  ·refine Or.inl ?_
   show ((0:Nat),(0:Int),nb (bW (lb (ak ([]:List Nat))) 4))=nul
   rw[he];rfl
  ·refine Or.inr (Or.inl ⟨n,?_,hn⟩)
   show ((1:Nat),n,nb (bW (lb (ak ([]:List Nat))) 4))=_
   rw[he]
  ·refine Or.inr (Or.inr (Or.inl ⟨n,?_,hn⟩))
   show ((2:Nat),(n:Int),nb (bW (lb (ak ([]:List Nat))) 4))=_
   rw[he]
  ·refine Or.inr (Or.inr (Or.inr ⟨_,rfl,?_,YY _⟩))
   rw[oM];show (bW (lb (ak s)) 4).length<=64
   have:=pS (lb (ak s)) 4;have h2:(lb (ak s)).length=s.length:=by rw[cJ,bg]
   omega
theorem Hu{x:Cl}(hf:aT x)(cl:Bool):aT (gF x cl).1:=by
 unfold gF;by_cases h:x.1=3
 ·rw[jdu h]
  cases ha:gQ (lb (ak x.2.2)) 4 with
  | none=>exact Or.inl rfl
  | some a =>
   simp only;cases cl
   ·exact Or.inl rfl
   ·refine Or.inr (Or.inr (Or.inr ⟨_,rfl,?_,YY _⟩))
    rw[oM];refine Ht ha ?_;rw[cJ];exact hf.short
 ·rw[jdt h]
  exact hf
theorem kD{cs:List Cl}(hf:∀ c∈cs,aT c):aT (cA cs).lo/\aT (cA cs).hi:=by
 have LV:∀ c∈aZ cs,aT c:=fun c hc=>hf c (by unfold aZ at hc;exact(jfg.1 hc).1)
 unfold cA;cases hn:aZ cs with
 | nil=>exact⟨Or.inl rfl,Or.inl rfl⟩
 | cons y r =>
  rw[hn]at LV;have hy:=LV y (by simp);have hr:∀ c∈r,aT c:=fun c hc=>LV c (by simp[hc])
  exact⟨Np (lY hy hr) _,Hu (nO hy hr) _⟩
def bst(l:List Int):Nat->List Nat
 | 0=>[]
 | k+1=>jC l k
def DR(l:List Int):List Nat:=if l.length<=256 then jC l 4 else []
theorem cG(w:World)(x:Nat):aD (w.alloc (.cells #[.int .u8 (x:Int)] 5)) w.heap.size (.slice (some ⟨w.heap.size,0,none⟩) 1 1) [x] :=
 jeG w #[.int .u8 (x:Int)] 1 (jdw _) (by unfold maxLen;omega) rfl
theorem Nq(l:List Int):bst l 1=[0]++gy l:=rfl
theorem Nr(l:List Int):bst l 2=if (iI 0 l).length+1<(bst l 1).length then [1]++iI 0 l else bst l 1:=rfl
theorem Ns(l:List Int):bst l 3=if (iv l).length+1<(bst l 2).length then [2]++iv l else bst l 2:=rfl
theorem Nw(l:List Int):bst l 4=if (pP l).length+1<(bst l 3).length then [3]++pP l else bst l 3:=rfl
theorem Nx(l:List Int):bst l 5=if (lR l).length+1<(bst l 4).length then [4]++lR l else bst l 4:=rfl
theorem Td{w:World}{v:Value}{l:List Int}(hs:Sv w v (aL l))(hl:l.length<=256)(hi:Is l) :
  Calls Tryz.prog 170 #[v] w fun e w'=>(∃ v',e=.returned (.tuple #[v',.bool true])/\aD w' w.heap.size v' (jC l 4))/\Below w.heap.size w w':=by
 have HS:=ae hs;have HI:=ae hi;obtain⟨a,cap,rfl,aW,bw⟩:=hs.form;have uT:¬ (l.length:Int) > 256:=by omega
 have qn:jfp (∀ k,(bst l k).length<=5131):=by
  intro k;cases k with
  | zero=>simp[bst]
  | succ k =>
   obtain⟨c,_,e⟩:=jm l k;rw[bst,e];have:=(eD c hi hl).1;simp
   omega
 have i0:∀ w,(Instr.index 246 (.agg #[.func (.func 226) #[] #[],.func (.func 227) #[] #[],.func (.func 228) #[] #[],.func (.func 229) #[] #[],.func (.func 230) #[] #[]]) (.int .i64 0)).run Tryz.prog w=.ok (.func (.func 226) #[] #[]) w:=fun _=>by kernel_rfl
 have hz_0:=(eD 0 hi hl).1;have HP0:jfp (∀ W,Sv W (.slice a l.length cap) (aL l)->Calls Tryz.prog 226 #[.slice a l.length cap] W (dw W (gy l))):=fun W h=>tI h hl HI.o
 have i1:∀ w,(Instr.index 246 (.agg #[.func (.func 226) #[] #[],.func (.func 227) #[] #[],.func (.func 228) #[] #[],.func (.func 229) #[] #[],.func (.func 230) #[] #[]]) (.int .i64 1)).run Tryz.prog w=.ok (.func (.func 227) #[] #[]) w:=fun _=>by kernel_rfl
 have hz_1:=(eD 1 hi hl).1;have Co:jfp (∀ W,Sv W (.slice a l.length cap) (aL l)->Calls Tryz.prog 227 #[.slice a l.length cap] W (dw W (iI 0 l))):=fun W h=>qX h hl HI.o
 have i2:∀ w,(Instr.index 246 (.agg #[.func (.func 226) #[] #[],.func (.func 227) #[] #[],.func (.func 228) #[] #[],.func (.func 229) #[] #[],.func (.func 230) #[] #[]]) (.int .i64 2)).run Tryz.prog w=.ok (.func (.func 228) #[] #[]) w:=fun _=>by kernel_rfl
 have hz_2:=(eD 2 hi hl).1;have Fx:jfp (∀ W,Sv W (.slice a l.length cap) (aL l)->Calls Tryz.prog 228 #[.slice a l.length cap] W (dw W (iv l))):=fun W h=>tK h hl HI.o
 have i3:∀ w,(Instr.index 246 (.agg #[.func (.func 226) #[] #[],.func (.func 227) #[] #[],.func (.func 228) #[] #[],.func (.func 229) #[] #[],.func (.func 230) #[] #[]]) (.int .i64 3)).run Tryz.prog w=.ok (.func (.func 229) #[] #[]) w:=fun _=>by kernel_rfl
 have hz_3:=(eD 3 hi hl).1;have KA:jfp (∀ W,Sv W (.slice a l.length cap) (aL l)->Calls Tryz.prog 229 #[.slice a l.length cap] W (dw W (pP l))):=fun W h=>pn h hl HI.o
 have i4:∀ w,(Instr.index 246 (.agg #[.func (.func 226) #[] #[],.func (.func 227) #[] #[],.func (.func 228) #[] #[],.func (.func 229) #[] #[],.func (.func 230) #[] #[]]) (.int .i64 4)).run Tryz.prog w=.ok (.func (.func 230) #[] #[]) w:=fun _=>by kernel_rfl
 have hz_4:=(eD 4 hi hl).1;have HP4:jfp (∀ W,Sv W (.slice a l.length cap) (aL l)->Calls Tryz.prog 230 #[.slice a l.length cap] W (dw W (lR l))):=fun W h=>nM h hl HI.o
 clear hs aW bw hi;go_enter Tryz.func170,Tryz.ntmps170
 go_wp2_with fail;refine(fY _).mono ?_;rintro e w1 ⟨rfl,aH⟩;have aQ:=ae aH;have cP:=aH.size;clear aH;go_wp2_with fail;go_loopw [4,12] (fun b i wr=>∃ k:Nat,k<=5/\i=.int .i64 (k:Int)/\aD wr w.heap.size b (bst l k)/\Below w.heap.size w wr) (fun _ i _=>5-(intOf i).toNat)
 case atStart=>exact⟨0,by omega,rfl,aD.nil _ _,aQ.o⟩
 case round =>
  obtain⟨k,hk,rfl,aA,az⟩:=hrel;have HO:=ae aA;have HB:=ae az;have bF:=az.size;obtain⟨ab,cb,rfl⟩:=aA.len;have fT:=qn.o k;clear aA az;obtain rfl | rfl | rfl | rfl | rfl | rfl:k=0∨k=1∨k=2∨k=3∨k=4∨k=5:=by omega
  ·have HT:=ae (Nq l)
   have VZ:=ae (HS.o.kept (HB.o.alloc bF (.cells #[.int .u8 0] 5)));have nl:=ae (cG wr 0);have fd:=ae ((jdv wr.heap.size wr).alloc (jdw _) (.cells #[.int .u8 0] 5));have Ag:(gy l).length<=5130:=hz_0;clear hz_0 hz_1 hz_2 hz_3 hz_4;generalize bst l 0=B0 at *;generalize gy l=EC at *;go_wp2_with fail;refine(HP0.o _ VZ.o).mono ?_;rintro e w3 ⟨⟨v3,rfl,fA⟩,aS⟩;have dh:=ae fA;have UT:=ae (nl.o.kept aS);have bP:=ae (fd.o.trans (aS.mono (by simp)));have iH:=aS.size;rw[jdx]at iH;clear fA aS;go_wp2_with (first | (at_builtin;refine ax rfl _ _ rfl wr.heap.size _ _ [0] EC rfl UT.o rfl dh.o.sv ?c1 ?c2 ?_))
   case c1=>simp;omega
   case c2=>omega
   intro v4 w4 o4 b4;have eR:=ae (o4.low bF);have cx:=ae (bP.o.trans b4);have gm:=ae (HB.o.trans (cx.o.mono bF));have Af:=ae (HO.o.kept cx.o);obtain⟨a4,c4,rfl⟩:=o4.len;clear o4 b4;go_wp2_with fail;go_roundw
   case rel=>exact⟨1,by omega,by go_num,by rw[HT.o];exact eR.o,gm.o⟩
   case measure=>simp[intOf]
  ·have HT:=ae (Nr l)
   have VZ:=ae (HS.o.kept (HB.o.alloc bF (.cells #[.int .u8 1] 5)));have nl:=ae (cG wr 1);have fd:=ae ((jdv wr.heap.size wr).alloc (jdw _) (.cells #[.int .u8 1] 5));have Ag:(iI 0 l).length<=5130:=hz_1;clear hz_0 hz_1 hz_2 hz_3 hz_4;generalize bst l 1=B0 at *;generalize iI 0 l=EC at *;go_wp2_with fail;refine(Co.o _ VZ.o).mono ?_;rintro e w3 ⟨⟨v3,rfl,fA⟩,aS⟩;have dh:=ae fA;have UT:=ae (nl.o.kept aS);have bP:=ae (fd.o.trans (aS.mono (by simp)));have iH:=aS.size;rw[jdx]at iH;clear fA aS;go_wp2_with (first | (at_builtin;refine ax rfl _ _ rfl wr.heap.size _ _ [1] EC rfl UT.o rfl dh.o.sv ?c1 ?c2 ?_))
   case c1=>simp;omega
   case c2=>omega
   intro v4 w4 o4 b4;have eR:=ae (o4.low bF);have cx:=ae (bP.o.trans b4);have gm:=ae (HB.o.trans (cx.o.mono bF));have Af:=ae (HO.o.kept cx.o);obtain⟨a4,c4,rfl⟩:=o4.len;clear o4 b4;by_cases aB:EC.length+1<B0.length
   ·rw[jdu aB]at HT
    have Cc:(EC.length:Int)+1<(B0.length:Int):=(by omega);clear aB;go_wp2_with fail;go_roundw
    case rel=>exact⟨2,by omega,by go_num,by rw[HT.o];exact eR.o,gm.o⟩
    case measure=>simp[intOf]
   ·rw[jdt aB]at HT
    have Cc:¬ (EC.length:Int)+1<(B0.length:Int):=(by omega);clear aB;go_wp2_with fail;go_roundw
    case rel=>exact⟨2,by omega,by go_num,by rw[HT.o];exact Af.o,gm.o⟩
    case measure=>simp[intOf]
  ·have HT:=ae (Ns l)
   have VZ:=ae (HS.o.kept (HB.o.alloc bF (.cells #[.int .u8 2] 5)));have nl:=ae (cG wr 2);have fd:=ae ((jdv wr.heap.size wr).alloc (jdw _) (.cells #[.int .u8 2] 5));have Ag:(iv l).length<=5130:=hz_2;clear hz_0 hz_1 hz_2 hz_3 hz_4;generalize bst l 2=B0 at *;generalize iv l=EC at *;go_wp2_with fail;refine(Fx.o _ VZ.o).mono ?_;rintro e w3 ⟨⟨v3,rfl,fA⟩,aS⟩;have dh:=ae fA;have UT:=ae (nl.o.kept aS);have bP:=ae (fd.o.trans (aS.mono (by simp)));have iH:=aS.size;rw[jdx]at iH;clear fA aS;go_wp2_with (first | (at_builtin;refine ax rfl _ _ rfl wr.heap.size _ _ [2] EC rfl UT.o rfl dh.o.sv ?c1 ?c2 ?_))
   case c1=>simp;omega
   case c2=>omega
   intro v4 w4 o4 b4;have eR:=ae (o4.low bF);have cx:=ae (bP.o.trans b4);have gm:=ae (HB.o.trans (cx.o.mono bF));have Af:=ae (HO.o.kept cx.o);obtain⟨a4,c4,rfl⟩:=o4.len;clear o4 b4;by_cases aB:EC.length+1<B0.length
   ·rw[jdu aB]at HT
    have Cc:(EC.length:Int)+1<(B0.length:Int):=(by omega);clear aB;go_wp2_with fail;go_roundw
    case rel=>exact⟨3,by omega,by go_num,by rw[HT.o];exact eR.o,gm.o⟩
    case measure=>simp[intOf]
   ·rw[jdt aB]at HT
    have Cc:¬ (EC.length:Int)+1<(B0.length:Int):=(by omega);clear aB;go_wp2_with fail;go_roundw
    case rel=>exact⟨3,by omega,by go_num,by rw[HT.o];exact Af.o,gm.o⟩
    case measure=>simp[intOf]
  ·have HT:=ae (Nw l)
   have VZ:=ae (HS.o.kept (HB.o.alloc bF (.cells #[.int .u8 3] 5)));have nl:=ae (cG wr 3);have fd:=ae ((jdv wr.heap.size wr).alloc (jdw _) (.cells #[.int .u8 3] 5));have Ag:(pP l).length<=5130:=hz_3;clear hz_0 hz_1 hz_2 hz_3 hz_4;generalize bst l 3=B0 at *;generalize pP l=EC at *;go_wp2_with fail;refine(KA.o _ VZ.o).mono ?_;rintro e w3 ⟨⟨v3,rfl,fA⟩,aS⟩;have dh:=ae fA;have UT:=ae (nl.o.kept aS);have bP:=ae (fd.o.trans (aS.mono (by simp)));have iH:=aS.size;rw[jdx]at iH;clear fA aS;go_wp2_with (first | (at_builtin;refine ax rfl _ _ rfl wr.heap.size _ _ [3] EC rfl UT.o rfl dh.o.sv ?c1 ?c2 ?_))
   case c1=>simp;omega
   case c2=>omega
   intro v4 w4 o4 b4;have eR:=ae (o4.low bF);have cx:=ae (bP.o.trans b4);have gm:=ae (HB.o.trans (cx.o.mono bF));have Af:=ae (HO.o.kept cx.o);obtain⟨a4,c4,rfl⟩:=o4.len;clear o4 b4;by_cases aB:EC.length+1<B0.length
   ·rw[jdu aB]at HT
    have Cc:(EC.length:Int)+1<(B0.length:Int):=(by omega);clear aB;go_wp2_with fail;go_roundw
    case rel=>exact⟨4,by omega,by go_num,by rw[HT.o];exact eR.o,gm.o⟩
    case measure=>simp[intOf]
   ·rw[jdt aB]at HT
    have Cc:¬ (EC.length:Int)+1<(B0.length:Int):=(by omega);clear aB;go_wp2_with fail;go_roundw
    case rel=>exact⟨4,by omega,by go_num,by rw[HT.o];exact Af.o,gm.o⟩
    case measure=>simp[intOf]
  ·have HT:=ae (Nx l)
   have VZ:=ae (HS.o.kept (HB.o.alloc bF (.cells #[.int .u8 4] 5)));have nl:=ae (cG wr 4);have fd:=ae ((jdv wr.heap.size wr).alloc (jdw _) (.cells #[.int .u8 4] 5));have Ag:(lR l).length<=5130:=hz_4;clear hz_0 hz_1 hz_2 hz_3 hz_4;generalize bst l 4=B0 at *;generalize lR l=EC at *;go_wp2_with fail;refine(HP4.o _ VZ.o).mono ?_;rintro e w3 ⟨⟨v3,rfl,fA⟩,aS⟩;have dh:=ae fA;have UT:=ae (nl.o.kept aS);have bP:=ae (fd.o.trans (aS.mono (by simp)));have iH:=aS.size;rw[jdx]at iH;clear fA aS;go_wp2_with (first | (at_builtin;refine ax rfl _ _ rfl wr.heap.size _ _ [4] EC rfl UT.o rfl dh.o.sv ?c1 ?c2 ?_))
   case c1=>simp;omega
   case c2=>omega
   intro v4 w4 o4 b4;have eR:=ae (o4.low bF);have cx:=ae (bP.o.trans b4);have gm:=ae (HB.o.trans (cx.o.mono bF));have Af:=ae (HO.o.kept cx.o);obtain⟨a4,c4,rfl⟩:=o4.len;clear o4 b4;by_cases aB:EC.length+1<B0.length
   ·rw[jdu aB]at HT
    have Cc:(EC.length:Int)+1<(B0.length:Int):=(by omega);clear aB;go_wp2_with fail;go_roundw
    case rel=>exact⟨5,by omega,by go_num,by rw[HT.o];exact eR.o,gm.o⟩
    case measure=>simp[intOf]
   ·rw[jdt aB]at HT
    have Cc:¬ (EC.length:Int)+1<(B0.length:Int):=(by omega);clear aB;go_wp2_with fail;go_roundw
    case rel=>exact⟨5,by omega,by go_num,by rw[HT.o];exact Af.o,gm.o⟩
    case measure=>simp[intOf]
  ·go_wp2_with fail
   go_ret2
   exact⟨⟨_,rfl,HO.o⟩,HB.o⟩
theorem Xf{w:World}{v:Value}{l:List Int}(hs:Sv w v (aL l))(hl:¬ l.length<=256) :
  Calls Tryz.prog 170 #[v] w fun e w'=>(∃ v',e=.returned (.tuple #[v',.bool false])/\aD w' w.heap.size v' [])/\Below w.heap.size w w':=by
 obtain⟨a,cap,rfl,aW,bw⟩:=hs.form;have hm:l.length<=9223372036854775807:=by unfold maxLen at bw;omega
 have uT:(l.length:Int) > 256:=by omega
 clear hs aW bw hl;go_enter Tryz.func170,Tryz.ntmps170
 go_wp2_with fail;go_ret2
 exact⟨⟨_,rfl,aD.nil _ _⟩,jdv _ _⟩
theorem Te{w:World}{v:Value}{l:List Int}(hs:Sv w v (aL l))(hi:Is l) :
  Calls Tryz.prog 170 #[v] w fun e w'=>(∃ v',e=.returned (.tuple #[v',.bool (decide (l.length<=256))])/\aD w' w.heap.size v' (DR l))/\Below w.heap.size w w':=by
 unfold DR;by_cases h:l.length<=256
 ·rw[jdO h,jdu h]
  exact Td hs h hi
 ·rw[jdK h,jdt h]
  exact Xf hs h
def cC(l:List (List Nat)):List Value:=l.map txt
theorem dL(l:List (List Nat)):(cC l).length=l.length:=jdz _
theorem pt(a b:List (List Nat)):cC (a++b)=cC a++cC b:=jdQ
theorem cM{l:List (List Nat)}{j:Nat}(h:j<l.length):(cC l)[j]?=some (txt l[j]):=by simp[cC,h]
def eF(W:World)(B:Nat)(v:Value)(l:List (List Nat)):Prop:=W.ownsRow B 9 1 v l.length (cC l)
theorem eF.nil(W:World)(B:Nat):eF W B (.slice none 0 0) []:=jeo _ _ _ _
theorem eF.kept{w w':World}{B:Nat}{v:Value}{l:List (List Nat)}(h:eF w B v l)(hb:Below w.heap.size w w'):eF w' B v l:=bL h hb
theorem eF.sv{W:World}{B:Nat}{v:Value}{l:List (List Nat)}(h:eF W B v l):Sv W v (cC l):=Sv.of_own h
end Go.Proofs.YtpljdjmpamjkhaaGreatDoor
