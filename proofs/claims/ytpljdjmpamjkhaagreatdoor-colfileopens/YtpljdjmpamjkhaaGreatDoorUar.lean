import Derived.Test.YtpljdjmpamjkhaaGreatDoorUaq
set_option linter.unusedVariables false
set_option linter.unusedSimpArgs false
set_option maxRecDepth 100000
set_option maxHeartbeats 8000000
namespace Go.Proofs.YtpljdjmpamjkhaaGreatDoor
open Go.RowKit Go.Lib
def nb(l:List UInt8):List Nat:=l.map UInt8.toNat
theorem MZ(l:List UInt8):am (nb l)=⟨l.toArray⟩:=by
 unfold am nb;congr 1
 rw[jdT];have:(Nat.toUInt8 ∘ UInt8.toNat)=id:=by funext x;simp
 rw[this,jel]
theorem lb_nb(l:List UInt8):lb (am (nb l))=l:=by rw[MZ];rfl
theorem Lk{t:ByteArray}{l:List UInt8}(h:lb t=l):t=am (nb l):=GH (by rw[lb_nb,h])
theorem YI(l:List UInt8):Bs (nb l):=fun x hx=>by
 unfold nb at hx;obtain⟨y,_,rfl⟩:=jdE.1 hx;exact UInt8.toNat_lt y
def nK(x:Cl)(cl:Bool):Cl:=if x.1=3/\cl=false then (3,0,[]) else (x.1,x.2.1,nb (bW (lb (am x.2.2)) 4))
def gr(x:Cl)(cl:Bool):Cl×Bool:=if x.1=3 then (match gI (lb (am x.2.2)) 4 with
 | none=>(nul,false)
 | some a=>if cl=true then ((3,0,nb a),true) else (nul,false)) else (x,true)
def Ceb(W:World)(p:Nat)(x y z:Value):Prop:=W.heap[p]?=some (.cells #[x,y,z] 52 (0,0))
theorem Ceb.facts{W:World}{p:Nat}{x y z:Value}(h:Ceb W p x y z):(W.cell? ⟨p,0,none⟩=some x/\W.cell? ⟨p,1,none⟩=some y/\W.cell? ⟨p,2,none⟩=some z)/\(W.frozen? ⟨p,0,none⟩=false/\W.frozen? ⟨p,1,none⟩=false/\W.frozen? ⟨p,2,none⟩=false)/\p<W.heap.size:=by
 unfold Ceb at h;refine⟨⟨by rw[ay h];rfl,by rw[ay h];rfl,by rw[ay h];rfl⟩,⟨by simp[World.frozen?,h],by simp[World.frozen?,h],by simp[World.frozen?,h]⟩,(Array.getElem?_eq_some_iff.1 h).1⟩
theorem Ceb.kept{W W':World}{p:Nat}{x y z:Value}(h:Ceb W p x y z)(hb:Below W.heap.size W W'):Ceb W' p x y z:=by
 have hp:=h.facts.2.2;unfold Ceb at *;rw[hb.block p hp];exact h
theorem Ceb.new(w:World)(x y z:Value):Ceb (w.alloc (.cells #[x,y,z] 52)) w.heap.size x y z:=jdH w _
theorem Bh{x:Cl}(hf:aV x)(cl:Bool)(w:World):Calls Tryz.prog 103 #[dh x,.bool cl] w fun e w'=>e=.returned (.agg #[.int .u8 ((nK x cl).1:Int),.int .i64 (nK x cl).2.1,.string (am (nK x cl).2.2)])/\Below w.heap.size w w':=by
 have HF:=ae hf;have hr:=Ceb.new w (.int .u8 0) (.int .i64 0) (.string ⟨#[]⟩);have dY:=ak w (.cells #[.int .u8 0,.int .i64 0,.string ⟨#[]⟩] 52);have HD:jfb (nK x cl=if x.1=3/\cl=false then (3,0,[]) else (x.1,x.2.1,nb (bW (lb (am x.2.2)) 4))):=ae rfl;generalize nK x cl=R at *;have HR:=ae hr;have cE:=ae dY;have HZ:jfb (w.heap.size<(w.alloc (.cells #[.int .u8 0,.int .i64 0,.string ⟨#[]⟩] 52)).heap.size):=ae hr.facts.2.2;clear hf hr dY;go_enter Tryz.func103,Tryz.ntmps103
 go_wp2_with fail;refine(lF HF.o.val _).mono ?_;rintro e w1 ⟨rfl,aH⟩;have aR:=ae (ai cE.o aH);have sj:=ae (HR.o.kept aH);have cY:w.heap.size<w1.heap.size:=jdD HZ.o aH.size;clear aH HR;have FF:=Ceb.new w1 (.int .u8 (x.1:Int)) (.int .i64 x.2.1) (.string (am x.2.2));have aE:=ak w1 (.cells #[.int .u8 (x.1:Int),.int .i64 x.2.1,.string (am x.2.2)] 52);have mY:=ae FF;have jd:=ae (sj.o.kept aE);have aO:=ae (ai aR.o aE);obtain⟨⟨d0,d1,d2⟩,⟨f0,f1,f2⟩,_⟩:=FF.facts;obtain⟨⟨r0,r1,r2⟩,⟨s0,s1,s2⟩,_⟩:=jd.o.facts;have fQ:¬ w1.heap.size=w.heap.size:=by omega
 have yH:¬ w.heap.size=w1.heap.size:=by omega
 clear FF aE sj;generalize hW:w1.alloc (.cells #[.int .u8 (x.1:Int),.int .i64 x.2.1,.string (am x.2.2)] 52)=W at *;by_cases h3:x.1=3/\cl=false
 ·rw[jdf h3]at HD
  obtain⟨h3a,rfl⟩:=h3;have h3':((x.1:Int)==3)=true:=by rw[h3a];rfl
  clear h3a;go_wp2_with fail;refine bodyPost_ret (v:=.agg #[.int .u8 3,.int .i64 0,.string ⟨#[]⟩]) (by simp[results,Tryz.results103,go_sem,r0,r1,r2]) rfl ⟨?_,set3 aO.o (jdh _) _ _ _⟩;rw[HD.o];rfl
 ·rw[jde h3]at HD
  have PB:=ae (zd (am x.2.2) 4 (by have:=HF.o.short;omega))
  have xV:((x.1:Int)==3)=false∨(((x.1:Int)==3)=true/\cl=true):=by
   by_cases hx:x.1=3
   ·right
    refine⟨by rw[hx];rfl,?_⟩;cases cl
    ·exact absurd ⟨hx,rfl⟩ h3
    ·rfl
   ·left
    exact jdt.2 (by omega)
  clear h3;rcases xV with h3' | ⟨h3',rfl⟩
  all_goals
   go_wp2_with fail;refine(PB.o _).mono ?_;rintro e w3 ⟨⟨t,rfl,ht⟩,aQ⟩;have Ci:=ae (Lk ht);obtain⟨⟨d0',d1',d2'⟩,⟨f0',f1',f2'⟩,_⟩:=(mY.o.kept aQ).facts;obtain⟨⟨r0',r1',r2'⟩,⟨s0',s1',s2'⟩,_⟩:=(jd.o.kept aQ).facts;have bN:=ae (ai aO.o aQ);have HZZ:jfb (w.heap.size<=w1.heap.size):=ae (by omega);clear aQ ht d0 d1 d2 f0 f1 f2 r0 r1 r2 s0 s1 s2 hW;go_wp2_with fail;refine bodyPost_ret (v:=.agg #[.int .u8 (x.1:Int),.int .i64 x.2.1,.string t]) (by simp[results,Tryz.results103,go_sem,r0',r1',r2',fQ,yH]) rfl ⟨?_,set3 (bN.o.setCell (p:=⟨w1.heap.size,2,none⟩) HZZ.o _) (jdh _) _ _ _⟩;rw[HD.o,Ci.o]
theorem yj{x:Cl}(hf:aV x)(cl:Bool)(w:World):Calls Tryz.prog 106 #[dh x,.bool cl] w fun e w'=>e=.returned (.tuple #[.agg #[.int .u8 ((gr x cl).1.1:Int),.int .i64 (gr x cl).1.2.1,.string (am (gr x cl).1.2.2)],.bool (gr x cl).2])/\Below w.heap.size w w':=by
 have HF:=ae hf;have hr:=Ceb.new w (.int .u8 0) (.int .i64 0) (.string ⟨#[]⟩);have dY:=ak w (.cells #[.int .u8 0,.int .i64 0,.string ⟨#[]⟩] 52)
 have HD:jfb (gr x cl=if x.1=3 then (match gI (lb (am x.2.2)) 4 with
  | none=>(nul,false)
  | some a=>if cl=true then ((3,0,nb a),true) else (nul,false)) else (x,true)):=ae rfl
 generalize gr x cl=R at *;have HR:=ae hr;have cE:=ae dY;have HZ:jfb (w.heap.size<(w.alloc (.cells #[.int .u8 0,.int .i64 0,.string ⟨#[]⟩] 52)).heap.size):=ae hr.facts.2.2;clear hf hr dY;go_enter Tryz.func106,Tryz.ntmps106
 go_wp2_with fail;refine(lF HF.o.val _).mono ?_;rintro e w1 ⟨rfl,aH⟩;have aR:=ae (ai cE.o aH);have sj:=ae (HR.o.kept aH);have cY:w.heap.size<w1.heap.size:=jdD HZ.o aH.size;clear aH HR;have FF:=Ceb.new w1 (.int .u8 (x.1:Int)) (.int .i64 x.2.1) (.string (am x.2.2));have aE:=ak w1 (.cells #[.int .u8 (x.1:Int),.int .i64 x.2.1,.string (am x.2.2)] 52);have mY:=ae FF;have jd:=ae (sj.o.kept aE);have aO:=ae (ai aR.o aE);obtain⟨⟨d0,d1,d2⟩,⟨f0,f1,f2⟩,_⟩:=FF.facts;obtain⟨⟨r0,r1,r2⟩,⟨s0,s1,s2⟩,_⟩:=jd.o.facts;clear FF aE sj;generalize hW:w1.alloc (.cells #[.int .u8 (x.1:Int),.int .i64 x.2.1,.string (am x.2.2)] 52)=W at *;by_cases h3:x.1=3
 ·rw[jdf h3]at HD
  have h3':((x.1:Int) != 3)=false:=by rw[h3];rfl
  have Zf:=ae (MC (am x.2.2) 4 (by have:=HF.o.short;omega));clear h3;go_wp2_with fail;refine(Zf.o _).mono ?_;rintro e w3 ⟨⟨t,o,rfl,ho,ht⟩,aQ⟩;obtain⟨⟨r0',r1',r2'⟩,⟨s0',s1',s2'⟩,_⟩:=(jd.o.kept aQ).facts;have bN:=ae (ai aO.o aQ);clear aQ d0 d1 d2 f0 f1 f2 r0 r1 r2 s0 s1 s2 hW;cases ha:gI (lb (am x.2.2)) 4 with
  | none =>
   rw[ha]at HD ho;have ho':o=false:=ho;subst ho';clear ha ho ht;simp only at HD;go_wp2_with fail;refine bodyPost_ret (v:=.tuple #[.agg #[.int .u8 0,.int .i64 0,.string ⟨#[]⟩],.bool false]) (by simp[results,Tryz.results106,go_sem,r0',r1',r2']) rfl ⟨?_,set3 bN.o (jdh _) _ _ _⟩;rw[HD.o];rfl
  | some av =>
   rw[ha]at HD ho ht;have ho':o=true:=ho;subst ho';have Ci:=ae (Lk (show lb t=av from ht));clear ha ho ht;simp only at HD;cases cl
   ·go_wp2_with fail
    refine bodyPost_ret (v:=.tuple #[.agg #[.int .u8 0,.int .i64 0,.string ⟨#[]⟩],.bool false]) (by simp[results,Tryz.results106,go_sem,r0',r1',r2']) rfl ⟨?_,set3 bN.o (jdh _) _ _ _⟩;rw[HD.o];rfl
   ·go_wp2_with fail
    refine bodyPost_ret (v:=.tuple #[.agg #[.int .u8 3,.int .i64 0,.string t],.bool true]) (by simp[results,Tryz.results106,go_sem,r0',r1',r2']) rfl ⟨?_,set3 bN.o (jdh _) _ _ _⟩;rw[HD.o,Ci.o];rfl
 ·rw[jde h3]at HD
  have h3':((x.1:Int) != 3)=true:=by simp;omega
  clear h3;go_wp2_with fail;refine bodyPost_ret (v:=.tuple #[.agg #[.int .u8 (x.1:Int),.int .i64 x.2.1,.string (am x.2.2)],.bool true]) (by simp[results,Tryz.results106,go_sem,r0,r1,r2]) rfl ⟨?_,set3 aO.o (jdh _) _ _ _⟩;rw[HD.o]
def cy(cs:List Cl):Stt:=match aZ cs with
 | []=>⟨cs.length,cs.length,false,false,nul,nul⟩
 | x::r=>⟨cs.length,(cs.length:Int)-((x::r).length:Nat),true,(gr (eE x r) ((x::r).all eM)).2,nK (fZ x r) ((x::r).all eM),(gr (eE x r) ((x::r).all eM)).1⟩
theorem Stb.kept{W W':World}{p:Nat}{st:Stt}(h:Stb W p st)(hb:Below W.heap.size W W'):Stb W' p st:=by
 have hp:=h.at.1;unfold Stb at *;rw[hb.block p hp];exact h
theorem Stb.frozen{W:World}{p:Nat}{st:Stt}(h:Stb W p st)(i:Nat):W.frozen? ⟨p,i,none⟩=false:=by
 unfold Stb at h;simp[World.frozen?,h]
theorem Stb.lo{W:World}{p:Nat}{st:Stt}(h:Stb W p st)(c:Cl):Stb (((W.setCell ⟨p,4,none⟩ (.int .u8 (c.1:Int))).setCell ⟨p,5,none⟩ (.int .i64 c.2.1)).setCell ⟨p,6,none⟩ (.string (am c.2.2))) p { st with lo:=c }:=by
 unfold Stb at *;rw[cJ (cJ (cJ h 4 _) 5 _) 6 _];rfl
theorem Stb.other{W:World}{p q:Nat}{st:Stt}(h:Stb W q st)(hn:q≠p)(i:Nat)(v:Value):Stb (W.setCell ⟨p,i,none⟩ v) q st:=by
 unfold Stb at *;rw[heap_setCell_other _ ⟨p,i,none⟩ q _ hn];exact h
theorem fq{B:Nat}{w W:World}(h:Below B w W){p:Nat}(hp:B<=p)(i:Nat)(x:Value):Below B w (W.setCell ⟨p,i,none⟩ x):=h.setCell (p:=⟨p,i,none⟩) hp _
theorem SI{B:Nat}{w W:World}(h:Below B w W){p:Nat}(hp:B<=p)(x0 x1 x2 x3 x4 x5 x6 x7 x8 x9:Value):Below B w ((((((((((W.setCell ⟨p,0,none⟩ x0).setCell ⟨p,1,none⟩ x1).setCell ⟨p,2,none⟩ x2).setCell ⟨p,3,none⟩ x3).setCell ⟨p,4,none⟩ x4).setCell ⟨p,5,none⟩ x5).setCell ⟨p,6,none⟩ x6).setCell ⟨p,7,none⟩ x7).setCell ⟨p,8,none⟩ x8).setCell ⟨p,9,none⟩ x9) :=
 fq (fq (fq (fq (fq (fq (fq (fq (fq (fq h hp _ _) hp _ _) hp _ _) hp _ _) hp _ _) hp _ _) hp _ _) hp _ _) hp _ _) hp _ _
def stZ:Stt:=⟨0,0,false,false,nul,nul⟩
theorem zH{w:World}{v:Value}{cs:List Cl}(hs:Sv w v (aJ cs))(hf:∀ c∈cs,aV c)(hl:cs.length<=1000):Calls Tryz.prog 59 #[v] w fun e w'=>e=.returned (uC (cy cs))/\Below w.heap.size w w':=by
 have HF:=ae hf;have cm:=Stb.new w stZ;have dY:=ak w (.cells #[.int .i64 0,.int .i64 0,.bool false,.bool false,.int .u8 0,.int .i64 0,.string ⟨#[]⟩,.int .u8 0,.int .i64 0,.string ⟨#[]⟩] 54);have hz0':Stb (w.alloc (.cells #[.int .i64 0,.int .i64 0,.bool false,.bool false,.int .u8 0,.int .i64 0,.string ⟨#[]⟩,.int .u8 0,.int .i64 0,.string ⟨#[]⟩] 54)) w.heap.size stZ:=cm;have lA:=ae (hs.kept dY);obtain⟨a,cap,rfl,aY,bx⟩:=hs.form1;rw[aG]at *;have HZ0:=ae hz0';have cE:=ae dY;have sA:(w.alloc (.cells #[.int .i64 0,.int .i64 0,.bool false,.bool false,.int .u8 0,.int .i64 0,.string ⟨#[]⟩,.int .u8 0,.int .i64 0,.string ⟨#[]⟩] 54)).heap.size=w.heap.size+1:=jdi _ _;have rS:=ae sA;clear hs hf cm dY hz0' sA;generalize hA:w.alloc (.cells #[.int .i64 0,.int .i64 0,.bool false,.bool false,.int .u8 0,.int .i64 0,.string ⟨#[]⟩,.int .u8 0,.int .i64 0,.string ⟨#[]⟩] 54)=A at *;have HL:=ae hl;clear hl;go_enter Tryz.func59,Tryz.ntmps59
 go_wp2_with fail;try rw[hA]
 refine(pY lA.o HL.o).mono ?_;rintro e w1 ⟨⟨v1,rfl,eI⟩,aH⟩;have fC:=ae eI;have aR:=ae aH;clear eI aH hA;go_wp2_with fail;refine(wY fC.o HF.o aR.o.size).mono ?_;rintro e w2 ⟨⟨v2,rfl,ei⟩,aE⟩;have aO:=ae (aR.o.trans aE);have gE:=ae ei;have PC:jfb (∀ c∈aZ cs,aV c):=ae (fun c hc=>HF.o c (by unfold aZ at hc;exact(je2.1 hc).1));obtain⟨a2,cap2,rfl,Uo,yz⟩:=ei.form1;rw[aG]at *
 have cT:jfb (cy cs=match aZ cs with
  | []=>⟨cs.length,cs.length,false,false,nul,nul⟩
  | x::r=>⟨cs.length,(cs.length:Int)-((x::r).length:Nat),true,(gr (eE x r) ((x::r).all eM)).2,nK (fZ x r) ((x::r).all eM),(gr (eE x r) ((x::r).all eM)).1⟩):=ae rfl
 have HNL:jfb ((aZ cs).length<=cs.length):=ae (jeR _ _);clear aE ei fC aR lA;generalize aZ cs=ns at *;have LM:=ae (HZ0.o.kept aO.o);have nr:=ae (ai cE.o aO.o);have nt:jfb (w.heap.size<w2.heap.size):=ae LM.o.at.1;clear HZ0 cE aO bx yz;cases ns with
 | nil =>
  simp only at cT;simp only[jdI]at *;have hSb:=Stb.new w2 ⟨cs.length,cs.length,false,false,nul,nul⟩;have hSb':Stb (w2.alloc (.cells #[.int .i64 (cs.length:Int),.int .i64 (cs.length:Int),.bool false,.bool false,.int .u8 0,.int .i64 0,.string ⟨#[]⟩,.int .u8 0,.int .i64 0,.string ⟨#[]⟩] 54)) w2.heap.size ⟨cs.length,cs.length,false,false,nul,nul⟩:=hSb;clear hSb;have HSb:=ae hSb';have hbG:=ak w2 (.cells #[.int .i64 (cs.length:Int),.int .i64 (cs.length:Int),.bool false,.bool false,.int .u8 0,.int .i64 0,.string ⟨#[]⟩,.int .u8 0,.int .i64 0,.string ⟨#[]⟩] 54);have hZG:=LM.o.kept hbG;have Kj:wrap64 (cs.length:Int)=(cs.length:Int):=by have:=HL.o;unfold wrap64;omega
  obtain⟨_,⟨r0,r1,r2,r3⟩,⟨r4,r5,r6⟩,r7,r8,r9⟩:=LM.o.at;obtain⟨_,⟨q0,q1,q2,q3⟩,⟨q4,q5,q6⟩,q7,q8,q9⟩:=hZG.at;simp only[jdK]at r0 r1 r2 r3 r4 r5 r6 r7 r8 r9 q0 q1 q2 q3 q4 q5 q6 q7 q8 q9;have fz:=LM.o.frozen;have fg:=hZG.frozen;have py:=nt.o;have xH:∀(X:World) (o:Obj) (i:Nat),w.heap.size<X.heap.size->(X.alloc o).cell? ⟨w.heap.size,i,none⟩=X.cell? ⟨w.heap.size,i,none⟩:=fun X o i h=>(ak X o).cell h
  have Ky:=SI nr.o (jdh _) (.int .i64 (cs.length:Int)) (.int .i64 (cs.length:Int)) (.bool false) (.bool false) (.int .u8 0) (.int .i64 0) (.string ⟨#[]⟩) (.int .u8 0) (.int .i64 0) (.string ⟨#[]⟩);have HSET:=ae Ky;clear hSb' Ky hbG hZG;go_wp2_with fail;refine bodyPost_ret (v:=.agg #[.int .i64 (cs.length:Int),.int .i64 (cs.length:Int),.bool false,.bool false,.int .u8 0,.int .i64 0,.string ⟨#[]⟩,.int .u8 0,.int .i64 0,.string ⟨#[]⟩]) (by simp[results,Tryz.results59,go_sem,xH,py,r0,r1,r2,r3,r4,r5,r6,r7,r8,r9]) rfl ⟨?_,?_⟩
  ·rw[cT.o]
   rfl
  ·exact HSET.o.alloc HSET.o.size _
 | cons x r =>
  simp only at cT;have hmp:(0:Int)<((x::r).length:Int):=by simp only[jdn];omega
  have PA:Stb (w2.alloc (.cells #[.int .i64 (cs.length:Int),.int .i64 ((cs.length:Int)-((x::r).length:Int)),.bool true,.bool false,.int .u8 0,.int .i64 0,.string ⟨#[]⟩,.int .u8 0,.int .i64 0,.string ⟨#[]⟩] 54)) w2.heap.size ⟨cs.length,(cs.length:Int)-((x::r).length:Int),true,false,nul,nul⟩:=Stb.new w2 ⟨cs.length,(cs.length:Int)-((x::r).length:Int),true,false,nul,nul⟩;have hbG:=ak w2 (.cells #[.int .i64 (cs.length:Int),.int .i64 ((cs.length:Int)-((x::r).length:Int)),.bool true,.bool false,.int .u8 0,.int .i64 0,.string ⟨#[]⟩,.int .u8 0,.int .i64 0,.string ⟨#[]⟩] 54);have HGB:=ae PA;have HBG:=ae hbG;have Kj:wrap64 ((cs.length:Int)-((x::r).length:Int))=(cs.length:Int)-((x::r).length:Int):=by have:=HL.o;have:=HNL.o;unfold wrap64;omega
  have HSG:jfb (∀ U,Below w2.heap.size w2 U->Sv U (.slice a2 (x::r).length cap2) (aJ (x::r))/\Stb U w.heap.size stZ):=ae (fun U h=>⟨gE.o.kept h,LM.o.kept h⟩);have Qm:jfb (aV x):=ae (PC.o x (by simp));have np:jfb (∀ c∈r,aV c):=ae (fun c hc=>PC.o c (by simp[hc]));have HFMI:jfb (aV (fZ x r)):=ae (lU Qm.o np.o);have HFMA:jfb (aV (eE x r)):=ae (nJ Qm.o np.o);have PD:=ae (fun U (h:Below w2.heap.size w2 U)=>wZ (HSG.o U h).1 PC.o);have HMI:jfb (∀ U,Below w2.heap.size w2 U->Calls Tryz.prog 104 #[.slice a2 (x::r).length cap2,.func (.func 105) #[] #[]] U fun e w'=>e=.returned (dh (fZ x r))/\Below U.heap.size U w'):=ae (fun U h=>SG (HSG.o U h).1 PC.o (by simp));have HMA:jfb (∀ U,Below w2.heap.size w2 U->Calls Tryz.prog 107 #[.slice a2 (x::r).length cap2,.func (.func 105) #[] #[]] U fun e w'=>e=.returned (dh (eE x r))/\Below U.heap.size U w'):=ae (fun U h=>SH (HSG.o U h).1 PC.o (by simp));obtain⟨cl,eQ⟩:∃ cl,cl=(x::r).all eM:=⟨_,rfl⟩;rw[← eQ]at cT PD;clear eQ PA hbG;generalize fZ x r=mi at *;generalize eE x r=ma at *;have Zg:=ae (Bh HFMI.o cl);have HHI:=ae (yj HFMA.o cl);generalize nK mi cl=lo at *;generalize gr ma cl=hi at *;obtain⟨hi,hib⟩:=hi;simp only at cT HHI;generalize hmm:(x::r).length=m at *;have UA:0<m:=by omega
  have hmd:decide (0<m)=true:=jdy UA;clear hmm;obtain⟨_,⟨g0,g1,g2,g3⟩,⟨g4,g5,g6⟩,g7,g8,g9⟩:=HGB.o.at;simp only[jdK]at g0 g1 g2 g3 g4 g5 g6 g7 g8 g9;go_wp2_with fail;refine(PD.o _ HBG.o).mono ?_;rintro e w3 ⟨rfl,aQ⟩;have bN:=ae (ai HBG.o aQ);have XQ:=ae (HGB.o.kept aQ);clear aQ g0 g1 g2 g3 g4 g5 g6 g7 g8 g9;go_wp2_with fail;refine(HMI.o _ bN.o).mono ?_;rintro e w4 ⟨rfl,bw⟩;have ce:=ae (ai bN.o bw);have VL:=ae (XQ.o.kept bw);clear bw;go_wp2_with fail;refine(Zg.o _).mono ?_;rintro e w5 ⟨rfl,br⟩;have aS:=ae (ai ce.o br);have PE:=ae (VL.o.kept br);clear br;obtain⟨_,⟨g0,g1,g2,g3⟩,⟨g4,g5,g6⟩,g7,g8,g9⟩:=PE.o.at;simp only[jdK]at g0 g1 g2 g3 g4 g5 g6 g7 g8 g9;have fg:=PE.o.frozen;go_wp2_with fail;have dP:Below w2.heap.size w2 (((w5.setCell ⟨w2.heap.size,4,none⟩ (.int .u8 (lo.1:Int))).setCell ⟨w2.heap.size,5,none⟩ (.int .i64 lo.2.1)).setCell ⟨w2.heap.size,6,none⟩ (.string (am lo.2.2))):=fq (fq (fq aS.o (jdh _) _ _) (jdh _) _ _) (jdh _) _ _;have jc:=ae dP;have kI:=ae (PE.o.lo lo);clear dP fg g0 g1 g2 g3 g4 g5 g6 g7 g8 g9;refine(HMA.o _ jc.o).mono ?_;rintro e w7 ⟨rfl,jk⟩;have ic:=ae (ai jc.o jk);have HG7:=ae (kI.o.kept jk);clear jk;go_wp2_with fail;refine(HHI.o _).mono ?_;rintro e w8 ⟨rfl,kH⟩;have qo:=ae (ai ic.o kH);have HG8:=ae (HG7.o.kept kH);clear kH;obtain⟨_,⟨g0,g1,g2,g3⟩,⟨g4,g5,g6⟩,g7,g8,g9⟩:=HG8.o.at;obtain⟨_,⟨r0,r1,r2,r3⟩,⟨r4,r5,r6⟩,r7,r8,r9⟩:=(HSG.o _ qo.o).2.at;simp only[jdK]at g0 g1 g2 g3 g4 g5 g6 g7 g8 g9 r0 r1 r2 r3 r4 r5 r6 r7 r8 r9;have fg:=HG8.o.frozen;have fz:=(HSG.o _ qo.o).2.frozen;have fQ:¬ w2.heap.size=w.heap.size:=by have:=nt.o;omega
  have yH:¬ w.heap.size=w2.heap.size:=by have:=nt.o;omega
  have ts:=ae (ai nr.o qo.o);have uJ:jfb (w.heap.size<=w2.heap.size):=ae (by have:=nt.o;omega);go_wp2_with fail;refine bodyPost_ret (v:=.agg #[.int .i64 (cs.length:Int),.int .i64 ((cs.length:Int)-(m:Int)),.bool true,.bool hib,.int .u8 (lo.1:Int),.int .i64 lo.2.1,.string (am lo.2.2),.int .u8 (hi.1:Int),.int .i64 hi.2.1,.string (am hi.2.2)]) (by simp[results,Tryz.results59,go_sem,fQ,yH,r0,r1,r2,r3,r4,r5,r6,r7,r8,r9]) rfl ⟨?_,?_⟩
  ·rw[cT.o]
   rfl
  ·exact SI (fq (fq (fq (fq ts.o uJ.o _ _) uJ.o _ _) uJ.o _ _) uJ.o _ _) (jdh _) _ _ _ _ _ _ _ _ _ _
theorem oJ(l:List UInt8):(nb l).length=l.length:=by simp[nb]
theorem ro{rs:List Nat}:∀ i,eJ (rs.map eu) i<=4*i
 | 0=>by simp
 | i+1=>by
  have:=ro (rs:=rs) i;by_cases h:i<rs.length
  ·have hd:(rs.map eu).drop i=eu rs[i]::(rs.map eu).drop (i+1):=by
    rw[jdX (by simpa using h)];simp
   rw[yL hd];have:=ig rs[i];have h2:(eu rs[i]).2=(dQ rs[i]).length:=rfl;omega
  ·have h1:=qJ (rs.map eu) i (by simp;omega)
   have h2:=qJ (rs.map eu) (i+1) (by simp;omega);omega
theorem Hp{l a:List UInt8}(h:gI l 4=some a)(hl:l.length<=64):a.length<=64:=by
 have h0:=h;rw[wU]at h;unfold dX at h;split at h
 ·split at h
  ·obtain rfl:=Option.some.inj h;omega
  ·split at h
   ·cases h
   ·next hc _ _ =>
    have hv:=Av hc;unfold upL at h;cases hg:gV (V l) (4:Int).toNat with
    | none=>rw[hg]at h;cases h
    | some i =>
     rw[hg]at h;have hi:=(qL hg).1;simp only[jeq,Option.some.injEq]at h;subst h;have:=ig (nx ((V l).getD i (0,0)).1);have:=ro (rs:=iH l) i;rw[← hv]at this;have h4:(4:Int).toNat=4:=rfl;simp only[jdj,jdo];omega
 ·cases h
theorem Na{x:Cl}(hf:aV x)(cl:Bool):aV (nK x cl):=by
 unfold nK;by_cases h:x.1=3/\cl=false
 ·rw[jdf h]
  exact Or.inr (Or.inr (Or.inr ⟨[],rfl,by simp,fun x hx=>by simp at hx⟩))
 ·rw[jde h]
  have he:nb (bW (lb (am ([]:List Nat))) 4)=[]:=by
   have:lb (am ([]:List Nat))=[]:=rfl;rw[this];simp[bW,nb]
  rcases hf with rfl | ⟨n,rfl,hn⟩ | ⟨n,rfl,hn⟩ | ⟨s,rfl,hl,hs⟩
  ·refine Or.inl ?_
   show ((0:Nat),(0:Int),nb (bW (lb (am ([]:List Nat))) 4))=nul
   rw[he];rfl
  ·refine Or.inr (Or.inl ⟨n,?_,hn⟩)
   show ((1:Nat),n,nb (bW (lb (am ([]:List Nat))) 4))=_
   rw[he]
  ·refine Or.inr (Or.inr (Or.inl ⟨n,?_,hn⟩))
   show ((2:Nat),(n:Int),nb (bW (lb (am ([]:List Nat))) 4))=_
   rw[he]
  ·refine Or.inr (Or.inr (Or.inr ⟨_,rfl,?_,YI _⟩))
   rw[oJ];show (bW (lb (am s)) 4).length<=64
   have:=pR (lb (am s)) 4;have h2:(lb (am s)).length=s.length:=by rw[cI,bm]
   omega
theorem Hq{x:Cl}(hf:aV x)(cl:Bool):aV (gr x cl).1:=by
 unfold gr;by_cases h:x.1=3
 ·rw[jdf h]
  cases ha:gI (lb (am x.2.2)) 4 with
  | none=>exact Or.inl rfl
  | some a =>
   simp only;cases cl
   ·exact Or.inl rfl
   ·refine Or.inr (Or.inr (Or.inr ⟨_,rfl,?_,YI _⟩))
    rw[oJ];refine Hp ha ?_;rw[cI];exact hf.short
 ·rw[jde h]
  exact hf
theorem kz{cs:List Cl}(hf:∀ c∈cs,aV c):aV (cy cs).lo/\aV (cy cs).hi:=by
 have LN:∀ c∈aZ cs,aV c:=fun c hc=>hf c (by unfold aZ at hc;exact(je2.1 hc).1)
 unfold cy;cases hn:aZ cs with
 | nil=>exact⟨Or.inl rfl,Or.inl rfl⟩
 | cons y r =>
  rw[hn]at LN;have hy:=LN y (by simp);have hr:∀ c∈r,aV c:=fun c hc=>LN c (by simp[hc])
  exact⟨Na (lU hy hr) _,Hq (nJ hy hr) _⟩
def bst(l:List Int):Nat->List Nat
 | 0=>[]
 | k+1=>jB l k
def DV(l:List Int):List Nat:=if l.length<=256 then jB l 4 else []
theorem cF(w:World)(x:Nat):aD (w.alloc (.cells #[.int .u8 (x:Int)] 5)) w.heap.size (.slice (some ⟨w.heap.size,0,none⟩) 1 1) [x] :=
 jer w #[.int .u8 (x:Int)] 1 (jdh _) (by unfold maxLen;omega) rfl
theorem Nb(l:List Int):bst l 1=[0]++gh l:=rfl
theorem Nc(l:List Int):bst l 2=if (iE 0 l).length+1<(bst l 1).length then [1]++iE 0 l else bst l 1:=rfl
theorem Nd(l:List Int):bst l 3=if (im l).length+1<(bst l 2).length then [2]++im l else bst l 2:=rfl
theorem Nf(l:List Int):bst l 4=if (pO l).length+1<(bst l 3).length then [3]++pO l else bst l 3:=rfl
theorem Ng(l:List Int):bst l 5=if (lN l).length+1<(bst l 4).length then [4]++lN l else bst l 4:=rfl
theorem SK{w:World}{v:Value}{l:List Int}(hs:Sv w v (aK l))(hl:l.length<=256)(hi:Is l) :
  Calls Tryz.prog 170 #[v] w fun e w'=>(∃ v',e=.returned (.tuple #[v',.bool true])/\aD w' w.heap.size v' (jB l 4))/\Below w.heap.size w w':=by
 have HS:=ae hs;have HI:=ae hi;obtain⟨a,cap,rfl,aY,bx⟩:=hs.form;have ve:¬ (l.length:Int) > 256:=by omega
 have rS:jfb (∀ k,(bst l k).length<=5131):=by
  intro k;cases k with
  | zero=>simp[bst]
  | succ k =>
   obtain⟨c,_,e⟩:=jo l k;rw[bst,e];have:=(eC c hi hl).1;simp
   omega
 have i0:∀ w,(Instr.index 246 (.agg #[.func (.func 226) #[] #[],.func (.func 227) #[] #[],.func (.func 228) #[] #[],.func (.func 229) #[] #[],.func (.func 230) #[] #[]]) (.int .i64 0)).run Tryz.prog w=.ok (.func (.func 226) #[] #[]) w:=fun _=>by kernel_rfl
 have hz_0:=(eC 0 hi hl).1;have HP0:jfb (∀ W,Sv W (.slice a l.length cap) (aK l)->Calls Tryz.prog 226 #[.slice a l.length cap] W (dw W (gh l))):=fun W h=>tI h hl HI.o
 have i1:∀ w,(Instr.index 246 (.agg #[.func (.func 226) #[] #[],.func (.func 227) #[] #[],.func (.func 228) #[] #[],.func (.func 229) #[] #[],.func (.func 230) #[] #[]]) (.int .i64 1)).run Tryz.prog w=.ok (.func (.func 227) #[] #[]) w:=fun _=>by kernel_rfl
 have hz_1:=(eC 1 hi hl).1;have Cu:jfb (∀ W,Sv W (.slice a l.length cap) (aK l)->Calls Tryz.prog 227 #[.slice a l.length cap] W (dw W (iE 0 l))):=fun W h=>qX h hl HI.o
 have i2:∀ w,(Instr.index 246 (.agg #[.func (.func 226) #[] #[],.func (.func 227) #[] #[],.func (.func 228) #[] #[],.func (.func 229) #[] #[],.func (.func 230) #[] #[]]) (.int .i64 2)).run Tryz.prog w=.ok (.func (.func 228) #[] #[]) w:=fun _=>by kernel_rfl
 have hz_2:=(eC 2 hi hl).1;have Fv:jfb (∀ W,Sv W (.slice a l.length cap) (aK l)->Calls Tryz.prog 228 #[.slice a l.length cap] W (dw W (im l))):=fun W h=>tK h hl HI.o
 have i3:∀ w,(Instr.index 246 (.agg #[.func (.func 226) #[] #[],.func (.func 227) #[] #[],.func (.func 228) #[] #[],.func (.func 229) #[] #[],.func (.func 230) #[] #[]]) (.int .i64 3)).run Tryz.prog w=.ok (.func (.func 229) #[] #[]) w:=fun _=>by kernel_rfl
 have hz_3:=(eC 3 hi hl).1;have Kz:jfb (∀ W,Sv W (.slice a l.length cap) (aK l)->Calls Tryz.prog 229 #[.slice a l.length cap] W (dw W (pO l))):=fun W h=>pi h hl HI.o
 have i4:∀ w,(Instr.index 246 (.agg #[.func (.func 226) #[] #[],.func (.func 227) #[] #[],.func (.func 228) #[] #[],.func (.func 229) #[] #[],.func (.func 230) #[] #[]]) (.int .i64 4)).run Tryz.prog w=.ok (.func (.func 230) #[] #[]) w:=fun _=>by kernel_rfl
 have hz_4:=(eC 4 hi hl).1;have HP4:jfb (∀ W,Sv W (.slice a l.length cap) (aK l)->Calls Tryz.prog 230 #[.slice a l.length cap] W (dw W (lN l))):=fun W h=>nH h hl HI.o
 clear hs aY bx hi;go_enter Tryz.func170,Tryz.ntmps170
 go_wp2_with fail;refine(fU _).mono ?_;rintro e w1 ⟨rfl,aH⟩;have aR:=ae aH;have cY:=aH.size;clear aH;go_wp2_with fail;go_loopw [4,12] (fun b i wr=>∃ k:Nat,k<=5/\i=.int .i64 (k:Int)/\aD wr w.heap.size b (bst l k)/\Below w.heap.size w wr) (fun _ i _=>5-(intOf i).toNat)
 case atStart=>exact⟨0,by omega,rfl,aD.nil _ _,aR.o⟩
 case round =>
  obtain⟨k,hk,rfl,aA,az⟩:=hrel;have HO:=ae aA;have HB:=ae az;have bP:=az.size;obtain⟨ab,cb,rfl⟩:=aA.len;have fO:=rS.o k;clear aA az;obtain rfl | rfl | rfl | rfl | rfl | rfl:k=0∨k=1∨k=2∨k=3∨k=4∨k=5:=by omega
  ·have HT:=ae (Nb l)
   have VM:=ae (HS.o.kept (HB.o.alloc bP (.cells #[.int .u8 0] 5)));have ni:=ae (cF wr 0);have eY:=ae ((jdg wr.heap.size wr).alloc (jdh _) (.cells #[.int .u8 0] 5));have Aj:(gh l).length<=5130:=hz_0;clear hz_0 hz_1 hz_2 hz_3 hz_4;generalize bst l 0=B0 at *;generalize gh l=EC at *;go_wp2_with fail;refine(HP0.o _ VM.o).mono ?_;rintro e w3 ⟨⟨v3,rfl,fP⟩,aQ⟩;have cZ:=ae fP;have UC:=ae (ni.o.kept aQ);have bN:=ae (eY.o.trans (aQ.mono (by simp)));have iD:=aQ.size;rw[jdi]at iD;clear fP aQ;go_wp2_with (first | (at_builtin;refine ax rfl _ _ rfl wr.heap.size _ _ [0] EC rfl UC.o rfl cZ.o.sv ?c1 ?c2 ?_))
   case c1=>simp;omega
   case c2=>omega
   intro v4 w4 o4 b4;have eR:=ae (o4.low bP);have ce:=ae (bN.o.trans b4);have ge:=ae (HB.o.trans (ce.o.mono bP));have Ai:=ae (HO.o.kept ce.o);obtain⟨a4,c4,rfl⟩:=o4.len;clear o4 b4;go_wp2_with fail;go_roundw
   case rel=>exact⟨1,by omega,by go_num,by rw[HT.o];exact eR.o,ge.o⟩
   case measure=>simp[intOf]
  ·have HT:=ae (Nc l)
   have VM:=ae (HS.o.kept (HB.o.alloc bP (.cells #[.int .u8 1] 5)));have ni:=ae (cF wr 1);have eY:=ae ((jdg wr.heap.size wr).alloc (jdh _) (.cells #[.int .u8 1] 5));have Aj:(iE 0 l).length<=5130:=hz_1;clear hz_0 hz_1 hz_2 hz_3 hz_4;generalize bst l 1=B0 at *;generalize iE 0 l=EC at *;go_wp2_with fail;refine(Cu.o _ VM.o).mono ?_;rintro e w3 ⟨⟨v3,rfl,fP⟩,aQ⟩;have cZ:=ae fP;have UC:=ae (ni.o.kept aQ);have bN:=ae (eY.o.trans (aQ.mono (by simp)));have iD:=aQ.size;rw[jdi]at iD;clear fP aQ;go_wp2_with (first | (at_builtin;refine ax rfl _ _ rfl wr.heap.size _ _ [1] EC rfl UC.o rfl cZ.o.sv ?c1 ?c2 ?_))
   case c1=>simp;omega
   case c2=>omega
   intro v4 w4 o4 b4;have eR:=ae (o4.low bP);have ce:=ae (bN.o.trans b4);have ge:=ae (HB.o.trans (ce.o.mono bP));have Ai:=ae (HO.o.kept ce.o);obtain⟨a4,c4,rfl⟩:=o4.len;clear o4 b4;by_cases aC:EC.length+1<B0.length
   ·rw[jdf aC]at HT
    have Cj:(EC.length:Int)+1<(B0.length:Int):=(by omega);clear aC;go_wp2_with fail;go_roundw
    case rel=>exact⟨2,by omega,by go_num,by rw[HT.o];exact eR.o,ge.o⟩
    case measure=>simp[intOf]
   ·rw[jde aC]at HT
    have Cj:¬ (EC.length:Int)+1<(B0.length:Int):=(by omega);clear aC;go_wp2_with fail;go_roundw
    case rel=>exact⟨2,by omega,by go_num,by rw[HT.o];exact Ai.o,ge.o⟩
    case measure=>simp[intOf]
  ·have HT:=ae (Nd l)
   have VM:=ae (HS.o.kept (HB.o.alloc bP (.cells #[.int .u8 2] 5)));have ni:=ae (cF wr 2);have eY:=ae ((jdg wr.heap.size wr).alloc (jdh _) (.cells #[.int .u8 2] 5));have Aj:(im l).length<=5130:=hz_2;clear hz_0 hz_1 hz_2 hz_3 hz_4;generalize bst l 2=B0 at *;generalize im l=EC at *;go_wp2_with fail;refine(Fv.o _ VM.o).mono ?_;rintro e w3 ⟨⟨v3,rfl,fP⟩,aQ⟩;have cZ:=ae fP;have UC:=ae (ni.o.kept aQ);have bN:=ae (eY.o.trans (aQ.mono (by simp)));have iD:=aQ.size;rw[jdi]at iD;clear fP aQ;go_wp2_with (first | (at_builtin;refine ax rfl _ _ rfl wr.heap.size _ _ [2] EC rfl UC.o rfl cZ.o.sv ?c1 ?c2 ?_))
   case c1=>simp;omega
   case c2=>omega
   intro v4 w4 o4 b4;have eR:=ae (o4.low bP);have ce:=ae (bN.o.trans b4);have ge:=ae (HB.o.trans (ce.o.mono bP));have Ai:=ae (HO.o.kept ce.o);obtain⟨a4,c4,rfl⟩:=o4.len;clear o4 b4;by_cases aC:EC.length+1<B0.length
   ·rw[jdf aC]at HT
    have Cj:(EC.length:Int)+1<(B0.length:Int):=(by omega);clear aC;go_wp2_with fail;go_roundw
    case rel=>exact⟨3,by omega,by go_num,by rw[HT.o];exact eR.o,ge.o⟩
    case measure=>simp[intOf]
   ·rw[jde aC]at HT
    have Cj:¬ (EC.length:Int)+1<(B0.length:Int):=(by omega);clear aC;go_wp2_with fail;go_roundw
    case rel=>exact⟨3,by omega,by go_num,by rw[HT.o];exact Ai.o,ge.o⟩
    case measure=>simp[intOf]
  ·have HT:=ae (Nf l)
   have VM:=ae (HS.o.kept (HB.o.alloc bP (.cells #[.int .u8 3] 5)));have ni:=ae (cF wr 3);have eY:=ae ((jdg wr.heap.size wr).alloc (jdh _) (.cells #[.int .u8 3] 5));have Aj:(pO l).length<=5130:=hz_3;clear hz_0 hz_1 hz_2 hz_3 hz_4;generalize bst l 3=B0 at *;generalize pO l=EC at *;go_wp2_with fail;refine(Kz.o _ VM.o).mono ?_;rintro e w3 ⟨⟨v3,rfl,fP⟩,aQ⟩;have cZ:=ae fP;have UC:=ae (ni.o.kept aQ);have bN:=ae (eY.o.trans (aQ.mono (by simp)));have iD:=aQ.size;rw[jdi]at iD;clear fP aQ;go_wp2_with (first | (at_builtin;refine ax rfl _ _ rfl wr.heap.size _ _ [3] EC rfl UC.o rfl cZ.o.sv ?c1 ?c2 ?_))
   case c1=>simp;omega
   case c2=>omega
   intro v4 w4 o4 b4;have eR:=ae (o4.low bP);have ce:=ae (bN.o.trans b4);have ge:=ae (HB.o.trans (ce.o.mono bP));have Ai:=ae (HO.o.kept ce.o);obtain⟨a4,c4,rfl⟩:=o4.len;clear o4 b4;by_cases aC:EC.length+1<B0.length
   ·rw[jdf aC]at HT
    have Cj:(EC.length:Int)+1<(B0.length:Int):=(by omega);clear aC;go_wp2_with fail;go_roundw
    case rel=>exact⟨4,by omega,by go_num,by rw[HT.o];exact eR.o,ge.o⟩
    case measure=>simp[intOf]
   ·rw[jde aC]at HT
    have Cj:¬ (EC.length:Int)+1<(B0.length:Int):=(by omega);clear aC;go_wp2_with fail;go_roundw
    case rel=>exact⟨4,by omega,by go_num,by rw[HT.o];exact Ai.o,ge.o⟩
    case measure=>simp[intOf]
  ·have HT:=ae (Ng l)
   have VM:=ae (HS.o.kept (HB.o.alloc bP (.cells #[.int .u8 4] 5)));have ni:=ae (cF wr 4);have eY:=ae ((jdg wr.heap.size wr).alloc (jdh _) (.cells #[.int .u8 4] 5));have Aj:(lN l).length<=5130:=hz_4;clear hz_0 hz_1 hz_2 hz_3 hz_4;generalize bst l 4=B0 at *;generalize lN l=EC at *;go_wp2_with fail;refine(HP4.o _ VM.o).mono ?_;rintro e w3 ⟨⟨v3,rfl,fP⟩,aQ⟩;have cZ:=ae fP;have UC:=ae (ni.o.kept aQ);have bN:=ae (eY.o.trans (aQ.mono (by simp)));have iD:=aQ.size;rw[jdi]at iD;clear fP aQ;go_wp2_with (first | (at_builtin;refine ax rfl _ _ rfl wr.heap.size _ _ [4] EC rfl UC.o rfl cZ.o.sv ?c1 ?c2 ?_))
   case c1=>simp;omega
   case c2=>omega
   intro v4 w4 o4 b4;have eR:=ae (o4.low bP);have ce:=ae (bN.o.trans b4);have ge:=ae (HB.o.trans (ce.o.mono bP));have Ai:=ae (HO.o.kept ce.o);obtain⟨a4,c4,rfl⟩:=o4.len;clear o4 b4;by_cases aC:EC.length+1<B0.length
   ·rw[jdf aC]at HT
    have Cj:(EC.length:Int)+1<(B0.length:Int):=(by omega);clear aC;go_wp2_with fail;go_roundw
    case rel=>exact⟨5,by omega,by go_num,by rw[HT.o];exact eR.o,ge.o⟩
    case measure=>simp[intOf]
   ·rw[jde aC]at HT
    have Cj:¬ (EC.length:Int)+1<(B0.length:Int):=(by omega);clear aC;go_wp2_with fail;go_roundw
    case rel=>exact⟨5,by omega,by go_num,by rw[HT.o];exact Ai.o,ge.o⟩
    case measure=>simp[intOf]
  ·go_wp2_with fail
   go_ret2
   exact⟨⟨_,rfl,HO.o⟩,HB.o⟩
theorem WP{w:World}{v:Value}{l:List Int}(hs:Sv w v (aK l))(hl:¬ l.length<=256) :
  Calls Tryz.prog 170 #[v] w fun e w'=>(∃ v',e=.returned (.tuple #[v',.bool false])/\aD w' w.heap.size v' [])/\Below w.heap.size w w':=by
 obtain⟨a,cap,rfl,aY,bx⟩:=hs.form;have hm:l.length<=9223372036854775807:=by unfold maxLen at bx;omega
 have ve:(l.length:Int) > 256:=by omega
 clear hs aY bx hl;go_enter Tryz.func170,Tryz.ntmps170
 go_wp2_with fail;go_ret2
 exact⟨⟨_,rfl,aD.nil _ _⟩,jdg _ _⟩
theorem SL{w:World}{v:Value}{l:List Int}(hs:Sv w v (aK l))(hi:Is l) :
  Calls Tryz.prog 170 #[v] w fun e w'=>(∃ v',e=.returned (.tuple #[v',.bool (decide (l.length<=256))])/\aD w' w.heap.size v' (DV l))/\Below w.heap.size w w':=by
 unfold DV;by_cases h:l.length<=256
 ·rw[jdy h,jdf h]
  exact SK hs h hi
 ·rw[jds h,jde h]
  exact WP hs h
def cA(l:List (List Nat)):List Value:=l.map txt
theorem dG(l:List (List Nat)):(cA l).length=l.length:=jdk _
theorem pq(a b:List (List Nat)):cA (a++b)=cA a++cA b:=jdC
theorem cL{l:List (List Nat)}{j:Nat}(h:j<l.length):(cA l)[j]?=some (txt l[j]):=by simp[cA,h]
def eF(W:World)(B:Nat)(v:Value)(l:List (List Nat)):Prop:=W.ownsRow B 9 1 v l.length (cA l)
theorem eF.nil(W:World)(B:Nat):eF W B (.slice none 0 0) []:=jd8 _ _ _ _
theorem eF.kept{w w':World}{B:Nat}{v:Value}{l:List (List Nat)}(h:eF w B v l)(hb:Below w.heap.size w w'):eF w' B v l:=bI h hb
theorem eF.sv{W:World}{B:Nat}{v:Value}{l:List (List Nat)}(h:eF W B v l):Sv W v (cA l):=Sv.of_own h
end Go.Proofs.YtpljdjmpamjkhaaGreatDoor
