import Derived.Test.YtpljdjmpamjkhaaGreatDoorSak
set_option linter.all false
set_option maxRecDepth 100000
set_option maxHeartbeats 8000000
namespace Go.Proofs.YtpljdjmpamjkhaaGreatDoor
open Tryz
open Go.RowKit Go.Lib
def nb(l:List UInt8):List Nat:=l.map UInt8.toNat
def Pt(l:List UInt8):bytesT (nb l)=⟨l.toArray⟩:=by
 unfold bytesT nb;congr 1
 rw[jfa];have:(Nat.toUInt8 ∘ UInt8.toNat)=id:=by funext x;simp
 rw[this,jfx]
def Uw(l:List UInt8):lb (bytesT (nb l))=l:=by rw[Pt];rfl
def Mf{t:ByteArray}{l:List UInt8}(h:lb t=l):t=bytesT (nb l):=Hy (by rw[Uw,h])
def jaS(l:List UInt8):Bs (nb l):=λx hx=>by
 unfold nb at hx;obtain⟨y,_,rfl⟩:=jeN.1 hx;exact UInt8.toNat_lt y
def mx(x:Cl)(cl:Bool):Cl:=if x.1=3/\cl=false then (3,0,[]) else (x.1,x.2.1,nb (bE (lb (bytesT x.2.2)) 4))
def fb(x:Cl)(cl:Bool):Cl×Bool:=if x.1=3 then (match eR (lb (bytesT x.2.2)) 4 with
 | none=>(nul,false)
 | some a=>if cl=true then ((3,0,nb a),true) else (nul,false)) else (x,true)
def Ceb(W:World)(p:Nat)(x y z:Value):Prop:=W.heap[p]?=some (.cells #[x,y,z] 52 (0,0))
def Ceb.facts{W:World}{p:Nat}{x y z:Value}(h:Ceb W p x y z):(W.cell? ⟨p,0,none⟩=some x/\W.cell? ⟨p,1,none⟩=some y/\W.cell? ⟨p,2,none⟩=some z)/\(W.frozen? ⟨p,0,none⟩=false/\W.frozen? ⟨p,1,none⟩=false/\W.frozen? ⟨p,2,none⟩=false)/\p<W.heap.size:=by
 unfold Ceb at h;refine⟨⟨by rw[an h];rfl,by rw[an h];rfl,by rw[an h];rfl⟩,⟨by simp[World.frozen?,h],by simp[World.frozen?,h],by simp[World.frozen?,h]⟩,(Array.getElem?_eq_some_iff.1 h).1⟩
def Ceb.kept{W W':World}{p:Nat}{x y z:Value}(h:Ceb W p x y z)(hb:jgu W W'):Ceb W' p x y z:=by
 have hp:=h.facts.2.2;unfold Ceb at *;rw[hb.block p hp];exact h
def Ceb.new(w:World)(x y z:Value):Ceb (w.alloc (.cells #[x,y,z] 52)) w.heap.size x y z:=je2 w _
def BT{x:Cl}(hf:aI x)(cl:Bool)(w:World):Calls prog 103 #[cz x,.bool cl] w λe w'=>e=.returned (.agg #[.int .u8 ((mx x cl).1:Int),.int .i64 (mx x cl).2.1,.string (bytesT (mx x cl).2.2)])/\jgu w w':=by
 have HF:=ae hf;have hr:=Ceb.new w (.int .u8 0) (.int .i64 0) (.string ⟨#[]⟩);have cy:=aj w (.cells #[.int .u8 0,.int .i64 0,.string ⟨#[]⟩] 52);have HD:jgt (mx x cl=if x.1=3/\cl=false then (3,0,[]) else (x.1,x.2.1,nb (bE (lb (bytesT x.2.2)) 4))):=ae rfl;generalize mx x cl=R at *;have HR:=ae hr;have ce:=ae cy;have HZ:jgt (w.heap.size<(w.alloc (.cells #[.int .u8 0,.int .i64 0,.string ⟨#[]⟩] 52)).heap.size):=ae hr.facts.2.2;clear hf hr cy;go_enter func103,ntmps103
 go_wp2_with fail;refine(ki HF.o.val _).mono ?_;rintro e w1 ⟨rfl,az⟩;have aL:=ae (ai ce.o az);have jw:=ae (HR.o.kept az);have bW:w.heap.size<w1.heap.size:=jeY HZ.o az.size;clear az HR;have vI:=Ceb.new w1 (.int .u8 (x.1:Int)) (.int .i64 x.2.1) (.string (bytesT x.2.2));have ap:=aj w1 (.cells #[.int .u8 (x.1:Int),.int .i64 x.2.1,.string (bytesT x.2.2)] 52);have ix:=ae vI;have fZ:=ae (jw.o.kept ap);have aG:=ae (ai aL.o ap);obtain⟨⟨d0,d1,d2⟩,⟨f0,f1,f2⟩,_⟩:=vI.facts;obtain⟨⟨r0,r1,r2⟩,⟨s0,s1,s2⟩,_⟩:=fZ.o.facts;have dC:¬ w1.heap.size=w.heap.size:=by omega
 have sn:¬ w.heap.size=w1.heap.size:=by omega
 clear vI ap jw;generalize hW:w1.alloc (.cells #[.int .u8 (x.1:Int),.int .i64 x.2.1,.string (bytesT x.2.2)] 52)=W at *;by_cases h3:x.1=3/\cl=false
 ·rw[jey h3]at HD
  obtain⟨h3a,rfl⟩:=h3;have h3':((x.1:Int)==3)=true:=by rw[h3a];rfl
  clear h3a;go_wp2_with fail;refine bodyPost_ret (v:=.agg #[.int .u8 3,.int .i64 0,.string ⟨#[]⟩]) (by simp[results,results103,go_sem,r0,r1,r2]) rfl ⟨?_,set3 aG.o (jeA _) _ _ _⟩;rw[HD.o];rfl
 ·rw[jex h3]at HD
  have GS:=ae (zN (bytesT x.2.2) 4 (by have:=HF.o.short;omega))
  have yt:((x.1:Int)==3)=false∨(((x.1:Int)==3)=true/\cl=true):=by
   by_cases hx:x.1=3
   ·right
    refine⟨by rw[hx];rfl,?_⟩;cases cl
    ·exact absurd ⟨hx,rfl⟩ h3
    ·rfl
   ·left
    exact jeF.2 (by omega)
  clear h3;rcases yt with h3' | ⟨h3',rfl⟩
  all_goals
   go_wp2_with fail;refine(GS.o _).mono ?_;rintro e w3 ⟨⟨t,rfl,ht⟩,aJ⟩;have AP:=ae (Mf ht);obtain⟨⟨d0',d1',d2'⟩,⟨f0',f1',f2'⟩,_⟩:=(ix.o.kept aJ).facts;obtain⟨⟨r0',r1',r2'⟩,⟨s0',s1',s2'⟩,_⟩:=(fZ.o.kept aJ).facts;have aY:=ae (ai aG.o aJ);have HZZ:jgt (w.heap.size<=w1.heap.size):=ae (by omega);clear aJ ht d0 d1 d2 f0 f1 f2 r0 r1 r2 s0 s1 s2 hW;go_wp2_with fail;refine bodyPost_ret (v:=.agg #[.int .u8 (x.1:Int),.int .i64 x.2.1,.string t]) (by simp[results,results103,go_sem,r0',r1',r2',dC,sn]) rfl ⟨?_,set3 (aY.o.setCell (p:=⟨w1.heap.size,2,none⟩) HZZ.o _) (jeA _) _ _ _⟩;rw[HD.o,AP.o]
def yG{x:Cl}(hf:aI x)(cl:Bool)(w:World):Calls prog 106 #[cz x,.bool cl] w λe w'=>e=.returned (.tuple #[.agg #[.int .u8 ((fb x cl).1.1:Int),.int .i64 (fb x cl).1.2.1,.string (bytesT (fb x cl).1.2.2)],.bool (fb x cl).2])/\jgu w w':=by
 have HF:=ae hf;have hr:=Ceb.new w (.int .u8 0) (.int .i64 0) (.string ⟨#[]⟩);have cy:=aj w (.cells #[.int .u8 0,.int .i64 0,.string ⟨#[]⟩] 52)
 have HD:jgt (fb x cl=if x.1=3 then (match eR (lb (bytesT x.2.2)) 4 with
  | none=>(nul,false)
  | some a=>if cl=true then ((3,0,nb a),true) else (nul,false)) else (x,true)):=ae rfl
 generalize fb x cl=R at *;have HR:=ae hr;have ce:=ae cy;have HZ:jgt (w.heap.size<(w.alloc (.cells #[.int .u8 0,.int .i64 0,.string ⟨#[]⟩] 52)).heap.size):=ae hr.facts.2.2;clear hf hr cy;go_enter func106,ntmps106
 go_wp2_with fail;refine(ki HF.o.val _).mono ?_;rintro e w1 ⟨rfl,az⟩;have aL:=ae (ai ce.o az);have jw:=ae (HR.o.kept az);have bW:w.heap.size<w1.heap.size:=jeY HZ.o az.size;clear az HR;have vI:=Ceb.new w1 (.int .u8 (x.1:Int)) (.int .i64 x.2.1) (.string (bytesT x.2.2));have ap:=aj w1 (.cells #[.int .u8 (x.1:Int),.int .i64 x.2.1,.string (bytesT x.2.2)] 52);have ix:=ae vI;have fZ:=ae (jw.o.kept ap);have aG:=ae (ai aL.o ap);obtain⟨⟨d0,d1,d2⟩,⟨f0,f1,f2⟩,_⟩:=vI.facts;obtain⟨⟨r0,r1,r2⟩,⟨s0,s1,s2⟩,_⟩:=fZ.o.facts;clear vI ap jw;generalize hW:w1.alloc (.cells #[.int .u8 (x.1:Int),.int .i64 x.2.1,.string (bytesT x.2.2)] 52)=W at *;by_cases h3:x.1=3
 ·rw[jey h3]at HD
  have h3':((x.1:Int) != 3)=false:=by rw[h3];rfl
  have HAB:=ae (NJ (bytesT x.2.2) 4 (by have:=HF.o.short;omega));clear h3;go_wp2_with fail;refine(HAB.o _).mono ?_;rintro e w3 ⟨⟨t,o,rfl,ho,ht⟩,aJ⟩;obtain⟨⟨r0',r1',r2'⟩,⟨s0',s1',s2'⟩,_⟩:=(fZ.o.kept aJ).facts;have aY:=ae (ai aG.o aJ);clear aJ d0 d1 d2 f0 f1 f2 r0 r1 r2 s0 s1 s2 hW;cases ha:eR (lb (bytesT x.2.2)) 4 with
  | none =>
   rw[ha]at HD ho;have ho':o=false:=ho;subst ho';clear ha ho ht;simp only at HD;go_wp2_with fail;refine bodyPost_ret (v:=.tuple #[.agg #[.int .u8 0,.int .i64 0,.string ⟨#[]⟩],.bool false]) (by simp[results,results106,go_sem,r0',r1',r2']) rfl ⟨?_,set3 aY.o (jeA _) _ _ _⟩;rw[HD.o];rfl
  | some av =>
   rw[ha]at HD ho ht;have ho':o=true:=ho;subst ho';have AP:=ae (Mf (show lb t=av from ht));clear ha ho ht;simp only at HD;cases cl
   ·go_wp2_with fail
    refine bodyPost_ret (v:=.tuple #[.agg #[.int .u8 0,.int .i64 0,.string ⟨#[]⟩],.bool false]) (by simp[results,results106,go_sem,r0',r1',r2']) rfl ⟨?_,set3 aY.o (jeA _) _ _ _⟩;rw[HD.o];rfl
   ·go_wp2_with fail
    refine bodyPost_ret (v:=.tuple #[.agg #[.int .u8 3,.int .i64 0,.string t],.bool true]) (by simp[results,results106,go_sem,r0',r1',r2']) rfl ⟨?_,set3 aY.o (jeA _) _ _ _⟩;rw[HD.o,AP.o];rfl
 ·rw[jex h3]at HD
  have h3':((x.1:Int) != 3)=true:=by simp;omega
  clear h3;go_wp2_with fail;refine bodyPost_ret (v:=.tuple #[.agg #[.int .u8 (x.1:Int),.int .i64 x.2.1,.string (bytesT x.2.2)],.bool true]) (by simp[results,results106,go_sem,r0,r1,r2]) rfl ⟨?_,set3 aG.o (jeA _) _ _ _⟩;rw[HD.o]
def bO(cs:List Cl):Stt:=match aR cs with
 | []=>⟨cs.length,cs.length,false,false,nul,nul⟩
 | x::r=>⟨cs.length,(cs.length:Int)-((x::r).length:Nat),true,(fb (dt x r) ((x::r).all ex)).2,mx (eG x r) ((x::r).all ex),(fb (dt x r) ((x::r).all ex)).1⟩
def Stb.kept{W W':World}{p:Nat}{st:Stt}(h:Stb W p st)(hb:jgu W W'):Stb W' p st:=by
 have hp:=h.at.1;unfold Stb at *;rw[hb.block p hp];exact h
def Stb.frozen{W:World}{p:Nat}{st:Stt}(h:Stb W p st)(i:Nat):W.frozen? ⟨p,i,none⟩=false:=by
 unfold Stb at h;simp[World.frozen?,h]
def Stb.lo{W:World}{p:Nat}{st:Stt}(h:Stb W p st)(c:Cl):Stb (((W.setCell ⟨p,4,none⟩ (.int .u8 (c.1:Int))).setCell ⟨p,5,none⟩ (.int .i64 c.2.1)).setCell ⟨p,6,none⟩ (.string (bytesT c.2.2))) p { st with lo:=c }:=by
 unfold Stb at *;rw[aT (aT (aT h 4 _) 5 _) 6 _];rfl
def Stb.other{W:World}{p q:Nat}{st:Stt}(h:Stb W q st)(hn:q≠p)(i:Nat)(v:Value):Stb (W.setCell ⟨p,i,none⟩ v) q st:=by
 unfold Stb at *;rw[heap_setCell_other _ ⟨p,i,none⟩ q _ hn];exact h
def fd{B:Nat}{w W:World}(h:Below B w W){p:Nat}(hp:B<=p)(i:Nat)(x:Value):Below B w (W.setCell ⟨p,i,none⟩ x):=h.setCell (p:=⟨p,i,none⟩) hp _
def Ux{B:Nat}{w W:World}(h:Below B w W){p:Nat}(hp:B<=p)(x0 x1 x2 x3 x4 x5 x6 x7 x8 x9:Value):Below B w ((((((((((W.setCell ⟨p,0,none⟩ x0).setCell ⟨p,1,none⟩ x1).setCell ⟨p,2,none⟩ x2).setCell ⟨p,3,none⟩ x3).setCell ⟨p,4,none⟩ x4).setCell ⟨p,5,none⟩ x5).setCell ⟨p,6,none⟩ x6).setCell ⟨p,7,none⟩ x7).setCell ⟨p,8,none⟩ x8).setCell ⟨p,9,none⟩ x9) :=
 fd (fd (fd (fd (fd (fd (fd (fd (fd (fd h hp _ _) hp _ _) hp _ _) hp _ _) hp _ _) hp _ _) hp _ _) hp _ _) hp _ _) hp _ _
def stZ:Stt:=⟨0,0,false,false,nul,nul⟩
def Ak{w:World}{v:Value}{cs:List Cl}(hs:Sv w v (aE cs))(hf:∀ c∈cs,aI c)(hl:cs.length<=1000):Calls prog 59 #[v] w λe w'=>e=.returned (xz (bO cs))/\jgu w w':=by
 have HF:=ae hf;have bR:=Stb.new w stZ;have cy:=aj w (.cells #[.int .i64 0,.int .i64 0,.bool false,.bool false,.int .u8 0,.int .i64 0,.string ⟨#[]⟩,.int .u8 0,.int .i64 0,.string ⟨#[]⟩] 54);have hz0':Stb (w.alloc (.cells #[.int .i64 0,.int .i64 0,.bool false,.bool false,.int .u8 0,.int .i64 0,.string ⟨#[]⟩,.int .u8 0,.int .i64 0,.string ⟨#[]⟩] 54)) w.heap.size stZ:=bR;have jD:=ae (hs.kept cy);obtain⟨a,cap,rfl,bg,bx⟩:=hs.form1;rw[ay]at *;have HZ0:=ae hz0';have ce:=ae cy;have sA:(w.alloc (.cells #[.int .i64 0,.int .i64 0,.bool false,.bool false,.int .u8 0,.int .i64 0,.string ⟨#[]⟩,.int .u8 0,.int .i64 0,.string ⟨#[]⟩] 54)).heap.size=w.heap.size+1:=jeB _ _;have oM:=ae sA;clear hs hf bR cy hz0' sA;generalize hA:w.alloc (.cells #[.int .i64 0,.int .i64 0,.bool false,.bool false,.int .u8 0,.int .i64 0,.string ⟨#[]⟩,.int .u8 0,.int .i64 0,.string ⟨#[]⟩] 54)=A at *;have HL:=ae hl;clear hl;go_enter func59,ntmps59
 go_wp2_with fail;try rw[hA]
 refine(pP jD.o HL.o).mono ?_;rintro e w1 ⟨⟨v1,rfl,dM⟩,az⟩;have fX:=ae dM;have aL:=ae az;clear dM az hA;go_wp2_with fail;refine(xC fX.o HF.o aL.o.size).mono ?_;rintro e w2 ⟨⟨v2,rfl,cV⟩,ap⟩;have aG:=ae (aL.o.trans ap);have fJ:=ae cV;have WL:jgt (∀ c∈aR cs,aI c):=ae (λc hc=>HF.o c (by unfold aR at hc;exact(jfX.1 hc).1));obtain⟨a2,cap2,rfl,MG,tO⟩:=cV.form1;rw[ay]at *
 have cF:jgt (bO cs=match aR cs with
  | []=>⟨cs.length,cs.length,false,false,nul,nul⟩
  | x::r=>⟨cs.length,(cs.length:Int)-((x::r).length:Nat),true,(fb (dt x r) ((x::r).all ex)).2,mx (eG x r) ((x::r).all ex),(fb (dt x r) ((x::r).all ex)).1⟩):=ae rfl
 have HNL:jgt ((aR cs).length<=cs.length):=ae (jgd _ _);clear ap cV fX aL jD;generalize aR cs=ns at *;have Gw:=ae (HZ0.o.kept aG.o);have cN:=ae (ai ce.o aG.o);have oN:jgt (w.heap.size<w2.heap.size):=ae Gw.o.at.1;clear HZ0 ce aG bx tO;cases ns with
 | nil =>
  simp only at cF;simp only[jeZ]at *;have hSb:=Stb.new w2 ⟨cs.length,cs.length,false,false,nul,nul⟩;have hSb':Stb (w2.alloc (.cells #[.int .i64 (cs.length:Int),.int .i64 (cs.length:Int),.bool false,.bool false,.int .u8 0,.int .i64 0,.string ⟨#[]⟩,.int .u8 0,.int .i64 0,.string ⟨#[]⟩] 54)) w2.heap.size ⟨cs.length,cs.length,false,false,nul,nul⟩:=hSb;clear hSb;have HSb:=ae hSb';have hbG:=aj w2 (.cells #[.int .i64 (cs.length:Int),.int .i64 (cs.length:Int),.bool false,.bool false,.int .u8 0,.int .i64 0,.string ⟨#[]⟩,.int .u8 0,.int .i64 0,.string ⟨#[]⟩] 54);have hZG:=Gw.o.kept hbG;have RG:wrap64 (cs.length:Int)=(cs.length:Int):=by have:=HL.o;unfold wrap64;omega
  obtain⟨_,⟨r0,r1,r2,r3⟩,⟨r4,r5,r6⟩,r7,r8,r9⟩:=Gw.o.at;obtain⟨_,⟨q0,q1,q2,q3⟩,⟨q4,q5,q6⟩,q7,q8,q9⟩:=hZG.at;simp only[jeU]at r0 r1 r2 r3 r4 r5 r6 r7 r8 r9 q0 q1 q2 q3 q4 q5 q6 q7 q8 q9;have fz:=Gw.o.frozen;have fg:=hZG.frozen;have nX:=oN.o;have rZ:∀(X:World) (o:Obj) (i:Nat),w.heap.size<X.heap.size->(X.alloc o).cell? ⟨w.heap.size,i,none⟩=X.cell? ⟨w.heap.size,i,none⟩:=λX o i h=>(aj X o).cell h
  have zf:=Ux cN.o (jeA _) (.int .i64 (cs.length:Int)) (.int .i64 (cs.length:Int)) (.bool false) (.bool false) (.int .u8 0) (.int .i64 0) (.string ⟨#[]⟩) (.int .u8 0) (.int .i64 0) (.string ⟨#[]⟩);have WN:=ae zf;clear hSb' zf hbG hZG;go_wp2_with fail;refine bodyPost_ret (v:=.agg #[.int .i64 (cs.length:Int),.int .i64 (cs.length:Int),.bool false,.bool false,.int .u8 0,.int .i64 0,.string ⟨#[]⟩,.int .u8 0,.int .i64 0,.string ⟨#[]⟩]) (by simp[results,results59,go_sem,rZ,nX,r0,r1,r2,r3,r4,r5,r6,r7,r8,r9]) rfl ⟨?_,?_⟩
  ·rw[cF.o]
   rfl
  ·exact WN.o.alloc WN.o.size _
 | cons x r =>
  simp only at cF;have hmp:(0:Int)<((x::r).length:Int):=by simp only[jeI];omega
  have GR:Stb (w2.alloc (.cells #[.int .i64 (cs.length:Int),.int .i64 ((cs.length:Int)-((x::r).length:Int)),.bool true,.bool false,.int .u8 0,.int .i64 0,.string ⟨#[]⟩,.int .u8 0,.int .i64 0,.string ⟨#[]⟩] 54)) w2.heap.size ⟨cs.length,(cs.length:Int)-((x::r).length:Int),true,false,nul,nul⟩:=Stb.new w2 ⟨cs.length,(cs.length:Int)-((x::r).length:Int),true,false,nul,nul⟩;have hbG:=aj w2 (.cells #[.int .i64 (cs.length:Int),.int .i64 ((cs.length:Int)-((x::r).length:Int)),.bool true,.bool false,.int .u8 0,.int .i64 0,.string ⟨#[]⟩,.int .u8 0,.int .i64 0,.string ⟨#[]⟩] 54);have HGB:=ae GR;have HBG:=ae hbG;have RG:wrap64 ((cs.length:Int)-((x::r).length:Int))=(cs.length:Int)-((x::r).length:Int):=by have:=HL.o;have:=HNL.o;unfold wrap64;omega
  have HSG:jgt (∀ U,jgu w2 U->Sv U (.slice a2 (x::r).length cap2) (aE (x::r))/\Stb U w.heap.size stZ):=ae (λU h=>⟨fJ.o.kept h,Gw.o.kept h⟩);have XF:jgt (aI x):=ae (WL.o x (by simp));have iy:jgt (∀ c∈r,aI c):=ae (λc hc=>WL.o c (by simp[hc]));have HFMI:jgt (aI (eG x r)):=ae (kE XF.o iy.o);have HFMA:jgt (aI (dt x r)):=ae (lS XF.o iy.o);have HUN:=ae (λU (h:jgu w2 U)=>xD (HSG.o U h).1 WL.o);have HMI:jgt (∀ U,jgu w2 U->Calls prog 104 #[.slice a2 (x::r).length cap2,.func (.func 105) #[] #[]] U λe w'=>e=.returned (cz (eG x r))/\jgu U w'):=ae (λU h=>Ut (HSG.o U h).1 WL.o (by simp));have HMA:jgt (∀ U,jgu w2 U->Calls prog 107 #[.slice a2 (x::r).length cap2,.func (.func 105) #[] #[]] U λe w'=>e=.returned (cz (dt x r))/\jgu U w'):=ae (λU h=>Uu (HSG.o U h).1 WL.o (by simp));obtain⟨cl,gV⟩:∃ cl,cl=(x::r).all ex:=⟨_,rfl⟩;rw[<- gV]at cF HUN;clear gV GR hbG;generalize eG x r=mi at *;generalize dt x r=ma at *;have XG:=ae (BT HFMI.o cl);have HHI:=ae (yG HFMA.o cl);generalize mx mi cl=lo at *;generalize fb ma cl=hi at *;obtain⟨hi,hib⟩:=hi;simp only at cF HHI;generalize hmm:(x::r).length=m at *;have RK:0<m:=by omega
  have hmd:decide (0<m)=true:=jeP RK;clear hmm;obtain⟨_,⟨g0,g1,g2,g3⟩,⟨g4,g5,g6⟩,g7,g8,g9⟩:=HGB.o.at;simp only[jeU]at g0 g1 g2 g3 g4 g5 g6 g7 g8 g9;go_wp2_with fail;refine(HUN.o _ HBG.o).mono ?_;rintro e w3 ⟨rfl,aJ⟩;have aY:=ae (ai HBG.o aJ);have HG3:=ae (HGB.o.kept aJ);clear aJ g0 g1 g2 g3 g4 g5 g6 g7 g8 g9;go_wp2_with fail;refine(HMI.o _ aY.o).mono ?_;rintro e w4 ⟨rfl,bD⟩;have cL:=ae (ai aY.o bD);have XH:=ae (HG3.o.kept bD);clear bD;go_wp2_with fail;refine(XG.o _).mono ?_;rintro e w5 ⟨rfl,bQ⟩;have bq:=ae (ai cL.o bQ);have QV:=ae (XH.o.kept bQ);clear bQ;obtain⟨_,⟨g0,g1,g2,g3⟩,⟨g4,g5,g6⟩,g7,g8,g9⟩:=QV.o.at;simp only[jeU]at g0 g1 g2 g3 g4 g5 g6 g7 g8 g9;have fg:=QV.o.frozen;go_wp2_with fail;have ct:jgu w2 (((w5.setCell ⟨w2.heap.size,4,none⟩ (.int .u8 (lo.1:Int))).setCell ⟨w2.heap.size,5,none⟩ (.int .i64 lo.2.1)).setCell ⟨w2.heap.size,6,none⟩ (.string (bytesT lo.2.2))):=fd (fd (fd bq.o (jeA _) _ _) (jeA _) _ _) (jeA _) _ _;have fV:=ae ct;have AQ:=ae (QV.o.lo lo);clear ct fg g0 g1 g2 g3 g4 g5 g6 g7 g8 g9;refine(HMA.o _ fV.o).mono ?_;rintro e w7 ⟨rfl,gJ⟩;have jK:=ae (ai fV.o gJ);have HG7:=ae (AQ.o.kept gJ);clear gJ;go_wp2_with fail;refine(HHI.o _).mono ?_;rintro e w8 ⟨rfl,kO⟩;have xZ:=ae (ai jK.o kO);have HG8:=ae (HG7.o.kept kO);clear kO;obtain⟨_,⟨g0,g1,g2,g3⟩,⟨g4,g5,g6⟩,g7,g8,g9⟩:=HG8.o.at;obtain⟨_,⟨r0,r1,r2,r3⟩,⟨r4,r5,r6⟩,r7,r8,r9⟩:=(HSG.o _ xZ.o).2.at;simp only[jeU]at g0 g1 g2 g3 g4 g5 g6 g7 g8 g9 r0 r1 r2 r3 r4 r5 r6 r7 r8 r9;have fg:=HG8.o.frozen;have fz:=(HSG.o _ xZ.o).2.frozen;have dC:¬ w2.heap.size=w.heap.size:=by have:=oN.o;omega
  have sn:¬ w.heap.size=w2.heap.size:=by have:=oN.o;omega
  have nW:=ae (ai cN.o xZ.o);have sG:jgt (w.heap.size<=w2.heap.size):=ae (by have:=oN.o;omega);go_wp2_with fail;refine bodyPost_ret (v:=.agg #[.int .i64 (cs.length:Int),.int .i64 ((cs.length:Int)-(m:Int)),.bool true,.bool hib,.int .u8 (lo.1:Int),.int .i64 lo.2.1,.string (bytesT lo.2.2),.int .u8 (hi.1:Int),.int .i64 hi.2.1,.string (bytesT hi.2.2)]) (by simp[results,results59,go_sem,dC,sn,r0,r1,r2,r3,r4,r5,r6,r7,r8,r9]) rfl ⟨?_,?_⟩
  ·rw[cF.o]
   rfl
  ·exact Ux (fd (fd (fd (fd nW.o sG.o _ _) sG.o _ _) sG.o _ _) sG.o _ _) (jeA _) _ _ _ _ _ _ _ _ _ _
def EH(l:List UInt8):Op.bytesLess l []=false:=by cases l<;>rfl
def lT(s:ByteArray):s.toList=lb s:=by rw[ByteArray.toList_eq];rfl
def oz(l:List UInt8):(nb l).length=l.length:=by simp[nb]
def BU{k n:Int}{s t:ByteArray}:cv k n s k n t=cS s t:=by
 unfold cv c3 or3;simp
def Pu(l:List UInt8)(m:Nat):Op.bytesLess l (l.take m)=false:=by
 have:=xn (l.take m) (l.drop m) [];rw[jfz,jeS]at this;exact this.trans (EH _)
def YX{x:Cl}(hf:aI x)(cl:Bool):aD (mx x cl) x<=0:=by
 unfold mx;by_cases h:x.1=3/\cl=false
 ·rw[jey h]
  rcases hf with rfl | ⟨n,rfl,_⟩ | ⟨n,rfl,_⟩ | ⟨s,rfl,_,_⟩
  ·exact absurd h.1 (by simp[nul])
  ·exact absurd h.1 (by simp)
  ·exact absurd h.1 (by simp)
  ·unfold aD
   rw[BU];apply Uv
   have he:(bytesT ((3,0,[]):Cl).2.2).toList=[]:=by rw[lT];rfl
   rw[he];exact EH _
 ·rw[jex h]
  unfold aD;simp only;rw[BU];apply Uv
  rw[lT,lT,Uw];exact Pu _ _
def YY{x:Cl}(hf:aI x){cl:Bool}(hh:(fb x cl).2=true):aD x (fb x cl).1<=0:=by
 unfold fb at hh ⊢;by_cases h:x.1=3
 ·rw[jey h]at hh ⊢
  rcases hf with rfl | ⟨n,rfl,_⟩ | ⟨n,rfl,_⟩ | ⟨s,rfl,_,hs⟩
  ·exact absurd h (by simp[nul])
  ·exact absurd h (by simp)
  ·exact absurd h (by simp)
  ·simp only at hh ⊢
   cases ha:eR (lb (bytesT s)) 4 with
   | none=>rw[ha]at hh;cases hh
   | some a =>
    rw[ha]at hh;cases cl
    ·cases hh
    ·simp only[if_true]
     unfold aD;simp only;rw[BU];apply Uv
     rw[lT,lT,Uw];by_cases hn:((V (lb (bytesT s))).length:Int)<=4
     ·unfold eR at ha
      by_cases hc:cX (lb (bytesT s))=true
      ·rw[jey hc,jey hn]at ha
       obtain rfl:=Option.some.inj ha;exact lj _
      ·rw[jex hc]at ha
       cases ha
     ·exact(Ev ha hn []).1
 ·rw[jex h]
  rw[tp];omega
def ru{rs:List Nat}:∀ i,eo (rs.map eu) i<=4*i
 | 0=>by simp
 | i+1=>by
  have:=ru (rs:=rs) i;by_cases h:i<rs.length
  ·have hd:(rs.map eu).drop i=eu rs[i]::(rs.map eu).drop (i+1):=by
    rw[je8 (by simpa using h)];simp
   rw[zr hd];have:=gW rs[i];have h2:(eu rs[i]).2=(cW rs[i]).length:=rfl;omega
  ·have h1:=qR (rs.map eu) i (by simp;omega)
   have h2:=qR (rs.map eu) (i+1) (by simp;omega);omega
def JI{l a:List UInt8}(h:eR l 4=some a)(hl:l.length<=64):a.length<=64:=by
 have h0:=h;rw[ro]at h;unfold df at h;split at h
 ·split at h
  ·obtain rfl:=Option.some.inj h;omega
  ·split at h
   ·cases h
   ·next hc _ _ =>
    have hv:=AW hc;unfold upL at h;cases hg:gg (V l) (4:Int).toNat with
    | none=>rw[hg]at h;cases h
    | some i =>
     rw[hg]at h;have hi:=(nw hg).1;simp only[jfC,Option.some.injEq]at h;subst h;have:=gW (nx ((V l).getD i (0,0)).1);have:=ru (rs:=br l) i;rw[<- hv]at this;have h4:(4:Int).toNat=4:=rfl;simp only[jeC,jeH];omega
 ·cases h
def Pv{x:Cl}(hf:aI x)(cl:Bool):aI (mx x cl):=by
 unfold mx;by_cases h:x.1=3/\cl=false
 ·rw[jey h]
  exact Or.inr (Or.inr (Or.inr ⟨[],rfl,by simp,λx hx=>by simp at hx⟩))
 ·rw[jex h]
  have he:nb (bE (lb (bytesT ([]:List Nat))) 4)=[]:=by
   have:lb (bytesT ([]:List Nat))=[]:=rfl;rw[this];simp[bE,nb]
  rcases hf with rfl | ⟨n,rfl,hn⟩ | ⟨n,rfl,hn⟩ | ⟨s,rfl,hl,hs⟩
  ·refine Or.inl ?_
   show ((0:Nat),(0:Int),nb (bE (lb (bytesT ([]:List Nat))) 4))=nul
   rw[he];rfl
  ·refine Or.inr (Or.inl ⟨n,?_,hn⟩)
   show ((1:Nat),n,nb (bE (lb (bytesT ([]:List Nat))) 4))=_
   rw[he]
  ·refine Or.inr (Or.inr (Or.inl ⟨n,?_,hn⟩))
   show ((2:Nat),(n:Int),nb (bE (lb (bytesT ([]:List Nat))) 4))=_
   rw[he]
  ·refine Or.inr (Or.inr (Or.inr ⟨_,rfl,?_,jaS _⟩))
   rw[oz];show (bE (lb (bytesT s)) 4).length<=64
   have:=pH (lb (bytesT s)) 4;have h2:(lb (bytesT s)).length=s.length:=by rw[bK,be]
   omega
def JJ{x:Cl}(hf:aI x)(cl:Bool):aI (fb x cl).1:=by
 unfold fb;by_cases h:x.1=3
 ·rw[jey h]
  cases ha:eR (lb (bytesT x.2.2)) 4 with
  | none=>exact Or.inl rfl
  | some a =>
   simp only;cases cl
   ·exact Or.inl rfl
   ·refine Or.inr (Or.inr (Or.inr ⟨_,rfl,?_,jaS _⟩))
    rw[oz];refine JI ha ?_;rw[bK];exact hf.short
 ·rw[jex h]
  exact hf
def Uy{cs:List Cl}{x:Cl}(h:x∈cs)(hx:x.1≠0):x∈aR cs:=by
 unfold aR;exact jfX.2 ⟨h,by simpa using hx⟩
def YZ{cs:List Cl}{x:Cl}(h:x∈cs)(hx:x.1=0):(aR cs).length<cs.length:=by
 unfold aR;refine List.length_filter_lt_length_iff_exists.2 ⟨x,h,by simp[hx]⟩
def mn_le{x y:Cl}{r:List Cl}(h:y∈x::r):aD (eG x r) y<=0:=by
 rcases jeL.1 h with rfl | h
 ·exact(BQ r y).1
 ·exact(BQ r x).2 y h
def mx_ge{x y:Cl}{r:List Cl}(h:y∈x::r):aD y (dt x r)<=0:=by
 rcases jeL.1 h with rfl | h
 ·exact(BS r y).1
 ·exact(BS r x).2 y h
def gE{cs:List Cl}(hf:∀ c∈cs,aI c):aI (bO cs).lo/\aI (bO cs).hi:=by
 have yd:∀ c∈aR cs,aI c:=λc hc=>hf c (by unfold aR at hc;exact(jfX.1 hc).1)
 unfold bO;cases hn:aR cs with
 | nil=>exact⟨Or.inl rfl,Or.inl rfl⟩
 | cons y r =>
  rw[hn]at yd;have hy:=yd y (by simp);have hr:∀ c∈r,aI c:=λc hc=>yd c (by simp[hc])
  exact⟨Pv (kE hy hr) _,JJ (lS hy hr) _⟩
def Pw{cs:List Cl}(hf:∀ c∈cs,aI c){x:Cl}(hx:x∈cs):Cov (bO cs) x:=by
 have WO:=gE hf;have yd:∀ c∈aR cs,aI c:=λc hc=>hf c (by unfold aR at hc;exact(jfX.1 hc).1)
 refine⟨λh0=>?_,λh0=>?_⟩
 ·have ar:=YZ hx h0
  unfold bO;cases hn:aR cs with
  | nil=>rw[hn]at ar;simp at ar ⊢;omega
  | cons y r=>rw[hn]at ar;simp only;omega
 ·have hm:=Uy hx h0
  rw[sP WO.1,sP WO.2];unfold bO;cases hn:aR cs with
  | nil=>rw[hn]at hm;simp at hm
  | cons y r =>
   rw[hn]at yd hm;have hy:=yd y (by simp);have hr:∀ c∈r,aI c:=λc hc=>yd c (by simp[hc])
   refine⟨rfl,?_,λhh=>?_⟩
   ·exact dH (YX (kE hy hr) _) (mn_le hm)
   ·exact dH (mx_ge hm) (YY (lS hy hr) hh)
def bst(l:List Int):Nat->List Nat
 | 0=>[]
 | k+1=>kn l k
def Uz(l:List Int):List Nat:=if l.length<=256 then kn l 4 else []
def io(w:World)(x:Nat):aM (w.alloc (.cells #[.int .u8 (x:Int)] 5)) w.heap.size (.slice (some ⟨w.heap.size,0,none⟩) 1 1) [x] :=
 jf0 w #[.int .u8 (x:Int)] 1 (jeA _) (by unfold maxLen;omega) rfl
def Px(l:List Int):bst l 1=[0]++hO l:=rfl
def Py(l:List Int):bst l 2=if (jO 0 l).length+1<(bst l 1).length then [1]++jO 0 l else bst l 1:=rfl
def Pz(l:List Int):bst l 3=if (jP l).length+1<(bst l 2).length then [2]++jP l else bst l 2:=rfl
def PA(l:List Int):bst l 4=if (vd l).length+1<(bst l 3).length then [3]++vd l else bst l 3:=rfl
def PB(l:List Int):bst l 5=if (oQ l).length+1<(bst l 4).length then [4]++oQ l else bst l 4:=rfl
def UA{w:World}{v:Value}{l:List Int}(hs:Sv w v (aO l))(hl:l.length<=256)(hi:Is l) :
  Calls prog 170 #[v] w λe w'=>(∃ v',e=.returned (.tuple #[v',.bool true])/\aM w' w.heap.size v' (kn l 4))/\jgu w w':=by
 have HS:=ae hs;have HI:=ae hi;obtain⟨a,cap,rfl,bg,bx⟩:=hs.form;have Gl:¬ (l.length:Int) > 256:=by omega
 have oM:jgt (∀ k,(bst l k).length<=5131):=by
  intro k;cases k with
  | zero=>simp[bst]
  | succ k =>
   obtain⟨c,_,e⟩:=ld l k;rw[bst,e];have:=(fM c hi hl).1;simp
   omega
 have i0:∀ w,(Instr.index 246 (.agg #[.func (.func 226) #[] #[],.func (.func 227) #[] #[],.func (.func 228) #[] #[],.func (.func 229) #[] #[],.func (.func 230) #[] #[]]) (.int .i64 0)).run prog w=.ok (.func (.func 226) #[] #[]) w:=λ_=>by kernel_rfl
 have hz_0:=(fM 0 hi hl).1;have HP0:jgt (∀ W,Sv W (.slice a l.length cap) (aO l)->Calls prog 226 #[.slice a l.length cap] W (ee W (hO l))):=λW h=>ui h hl HI.o
 have i1:∀ w,(Instr.index 246 (.agg #[.func (.func 226) #[] #[],.func (.func 227) #[] #[],.func (.func 228) #[] #[],.func (.func 229) #[] #[],.func (.func 230) #[] #[]]) (.int .i64 1)).run prog w=.ok (.func (.func 227) #[] #[]) w:=λ_=>by kernel_rfl
 have hz_1:=(fM 1 hi hl).1;have GJ:jgt (∀ W,Sv W (.slice a l.length cap) (aO l)->Calls prog 227 #[.slice a l.length cap] W (ee W (jO 0 l))):=λW h=>qZ h hl HI.o
 have i2:∀ w,(Instr.index 246 (.agg #[.func (.func 226) #[] #[],.func (.func 227) #[] #[],.func (.func 228) #[] #[],.func (.func 229) #[] #[],.func (.func 230) #[] #[]]) (.int .i64 2)).run prog w=.ok (.func (.func 228) #[] #[]) w:=λ_=>by kernel_rfl
 have hz_2:=(fM 2 hi hl).1;have Wr:jgt (∀ W,Sv W (.slice a l.length cap) (aO l)->Calls prog 228 #[.slice a l.length cap] W (ee W (jP l))):=λW h=>uk h hl HI.o
 have i3:∀ w,(Instr.index 246 (.agg #[.func (.func 226) #[] #[],.func (.func 227) #[] #[],.func (.func 228) #[] #[],.func (.func 229) #[] #[],.func (.func 230) #[] #[]]) (.int .i64 3)).run prog w=.ok (.func (.func 229) #[] #[]) w:=λ_=>by kernel_rfl
 have hz_3:=(fM 3 hi hl).1;have HP3:jgt (∀ W,Sv W (.slice a l.length cap) (aO l)->Calls prog 229 #[.slice a l.length cap] W (ee W (vd l))):=λW h=>pg h hl HI.o
 have i4:∀ w,(Instr.index 246 (.agg #[.func (.func 226) #[] #[],.func (.func 227) #[] #[],.func (.func 228) #[] #[],.func (.func 229) #[] #[],.func (.func 230) #[] #[]]) (.int .i64 4)).run prog w=.ok (.func (.func 230) #[] #[]) w:=λ_=>by kernel_rfl
 have hz_4:=(fM 4 hi hl).1;have MJ:jgt (∀ W,Sv W (.slice a l.length cap) (aO l)->Calls prog 230 #[.slice a l.length cap] W (ee W (oQ l))):=λW h=>nF h hl HI.o
 clear hs bg bx hi;go_enter func170,ntmps170
 go_wp2_with fail;refine(fN _).mono ?_;rintro e w1 ⟨rfl,az⟩;have aL:=ae az;have bW:=az.size;clear az;go_wp2_with fail;go_loopw [4,12] (λb i wr=>∃ k:Nat,k<=5/\i=.int .i64 (k:Int)/\aM wr w.heap.size b (bst l k)/\jgu w wr) (λ_ i _=>5-(intOf i).toNat)
 case atStart=>exact⟨0,by omega,rfl,aM.nil _ _,aL.o⟩
 case round =>
  obtain⟨k,hk,rfl,ax,ao⟩:=hrel;have HO:=ae ax;have HB:=ae ao;have bF:=ao.size;obtain⟨ab,cb,rfl⟩:=ax.len;have iV:=oM.o k;clear ax ao;obtain rfl | rfl | rfl | rfl | rfl | rfl:k=0∨k=1∨k=2∨k=3∨k=4∨k=5:=by omega
  ·have HT:=ae (Px l)
   have XI:=ae (HS.o.kept (HB.o.alloc bF (.cells #[.int .u8 0] 5)));have CN:=ae (io wr 0);have fx:=ae ((jez wr.heap.size wr).alloc (jeA _) (.cells #[.int .u8 0] 5));have AR:(hO l).length<=5130:=hz_0;clear hz_0 hz_1 hz_2 hz_3 hz_4;generalize bst l 0=B0 at *;generalize hO l=EC at *;go_wp2_with fail;refine(HP0.o _ XI.o).mono ?_;rintro e w3 ⟨⟨v3,rfl,fy⟩,aJ⟩;have dL:=ae fy;have QW:=ae (CN.o.kept aJ);have aY:=ae (fx.o.trans (aJ.mono (by simp)));have gy:=aJ.size;rw[jeB]at gy;clear fy aJ;go_wp2_with (first | (at_builtin;refine aC rfl _ _ rfl wr.heap.size _ _ [0] EC rfl QW.o rfl dL.o.sv ?c1 ?c2 ?_))
   case c1=>simp;omega
   case c2=>omega
   intro v4 w4 o4 b4;have gT:=ae (o4.low bF);have cL:=ae (aY.o.trans b4);have gU:=ae (HB.o.trans (cL.o.mono bF));have HOB:=ae (HO.o.kept cL.o);obtain⟨a4,c4,rfl⟩:=o4.len;clear o4 b4;go_wp2_with fail;go_roundw
   case rel=>exact⟨1,by omega,by go_num,by rw[HT.o];exact gT.o,gU.o⟩
   case measure=>simp[intOf]
  ·have HT:=ae (Py l)
   have XI:=ae (HS.o.kept (HB.o.alloc bF (.cells #[.int .u8 1] 5)));have CN:=ae (io wr 1);have fx:=ae ((jez wr.heap.size wr).alloc (jeA _) (.cells #[.int .u8 1] 5));have AR:(jO 0 l).length<=5130:=hz_1;clear hz_0 hz_1 hz_2 hz_3 hz_4;generalize bst l 1=B0 at *;generalize jO 0 l=EC at *;go_wp2_with fail;refine(GJ.o _ XI.o).mono ?_;rintro e w3 ⟨⟨v3,rfl,fy⟩,aJ⟩;have dL:=ae fy;have QW:=ae (CN.o.kept aJ);have aY:=ae (fx.o.trans (aJ.mono (by simp)));have gy:=aJ.size;rw[jeB]at gy;clear fy aJ;go_wp2_with (first | (at_builtin;refine aC rfl _ _ rfl wr.heap.size _ _ [1] EC rfl QW.o rfl dL.o.sv ?c1 ?c2 ?_))
   case c1=>simp;omega
   case c2=>omega
   intro v4 w4 o4 b4;have gT:=ae (o4.low bF);have cL:=ae (aY.o.trans b4);have gU:=ae (HB.o.trans (cL.o.mono bF));have HOB:=ae (HO.o.kept cL.o);obtain⟨a4,c4,rfl⟩:=o4.len;clear o4 b4;by_cases ar:EC.length+1<B0.length
   ·rw[jey ar]at HT
    have Li:(EC.length:Int)+1<(B0.length:Int):=(by omega);clear ar;go_wp2_with fail;go_roundw
    case rel=>exact⟨2,by omega,by go_num,by rw[HT.o];exact gT.o,gU.o⟩
    case measure=>simp[intOf]
   ·rw[jex ar]at HT
    have Li:¬ (EC.length:Int)+1<(B0.length:Int):=(by omega);clear ar;go_wp2_with fail;go_roundw
    case rel=>exact⟨2,by omega,by go_num,by rw[HT.o];exact HOB.o,gU.o⟩
    case measure=>simp[intOf]
  ·have HT:=ae (Pz l)
   have XI:=ae (HS.o.kept (HB.o.alloc bF (.cells #[.int .u8 2] 5)));have CN:=ae (io wr 2);have fx:=ae ((jez wr.heap.size wr).alloc (jeA _) (.cells #[.int .u8 2] 5));have AR:(jP l).length<=5130:=hz_2;clear hz_0 hz_1 hz_2 hz_3 hz_4;generalize bst l 2=B0 at *;generalize jP l=EC at *;go_wp2_with fail;refine(Wr.o _ XI.o).mono ?_;rintro e w3 ⟨⟨v3,rfl,fy⟩,aJ⟩;have dL:=ae fy;have QW:=ae (CN.o.kept aJ);have aY:=ae (fx.o.trans (aJ.mono (by simp)));have gy:=aJ.size;rw[jeB]at gy;clear fy aJ;go_wp2_with (first | (at_builtin;refine aC rfl _ _ rfl wr.heap.size _ _ [2] EC rfl QW.o rfl dL.o.sv ?c1 ?c2 ?_))
   case c1=>simp;omega
   case c2=>omega
   intro v4 w4 o4 b4;have gT:=ae (o4.low bF);have cL:=ae (aY.o.trans b4);have gU:=ae (HB.o.trans (cL.o.mono bF));have HOB:=ae (HO.o.kept cL.o);obtain⟨a4,c4,rfl⟩:=o4.len;clear o4 b4;by_cases ar:EC.length+1<B0.length
   ·rw[jey ar]at HT
    have Li:(EC.length:Int)+1<(B0.length:Int):=(by omega);clear ar;go_wp2_with fail;go_roundw
    case rel=>exact⟨3,by omega,by go_num,by rw[HT.o];exact gT.o,gU.o⟩
    case measure=>simp[intOf]
   ·rw[jex ar]at HT
    have Li:¬ (EC.length:Int)+1<(B0.length:Int):=(by omega);clear ar;go_wp2_with fail;go_roundw
    case rel=>exact⟨3,by omega,by go_num,by rw[HT.o];exact HOB.o,gU.o⟩
    case measure=>simp[intOf]
  ·have HT:=ae (PA l)
   have XI:=ae (HS.o.kept (HB.o.alloc bF (.cells #[.int .u8 3] 5)));have CN:=ae (io wr 3);have fx:=ae ((jez wr.heap.size wr).alloc (jeA _) (.cells #[.int .u8 3] 5));have AR:(vd l).length<=5130:=hz_3;clear hz_0 hz_1 hz_2 hz_3 hz_4;generalize bst l 3=B0 at *;generalize vd l=EC at *;go_wp2_with fail;refine(HP3.o _ XI.o).mono ?_;rintro e w3 ⟨⟨v3,rfl,fy⟩,aJ⟩;have dL:=ae fy;have QW:=ae (CN.o.kept aJ);have aY:=ae (fx.o.trans (aJ.mono (by simp)));have gy:=aJ.size;rw[jeB]at gy;clear fy aJ;go_wp2_with (first | (at_builtin;refine aC rfl _ _ rfl wr.heap.size _ _ [3] EC rfl QW.o rfl dL.o.sv ?c1 ?c2 ?_))
   case c1=>simp;omega
   case c2=>omega
   intro v4 w4 o4 b4;have gT:=ae (o4.low bF);have cL:=ae (aY.o.trans b4);have gU:=ae (HB.o.trans (cL.o.mono bF));have HOB:=ae (HO.o.kept cL.o);obtain⟨a4,c4,rfl⟩:=o4.len;clear o4 b4;by_cases ar:EC.length+1<B0.length
   ·rw[jey ar]at HT
    have Li:(EC.length:Int)+1<(B0.length:Int):=(by omega);clear ar;go_wp2_with fail;go_roundw
    case rel=>exact⟨4,by omega,by go_num,by rw[HT.o];exact gT.o,gU.o⟩
    case measure=>simp[intOf]
   ·rw[jex ar]at HT
    have Li:¬ (EC.length:Int)+1<(B0.length:Int):=(by omega);clear ar;go_wp2_with fail;go_roundw
    case rel=>exact⟨4,by omega,by go_num,by rw[HT.o];exact HOB.o,gU.o⟩
    case measure=>simp[intOf]
  ·have HT:=ae (PB l)
   have XI:=ae (HS.o.kept (HB.o.alloc bF (.cells #[.int .u8 4] 5)));have CN:=ae (io wr 4);have fx:=ae ((jez wr.heap.size wr).alloc (jeA _) (.cells #[.int .u8 4] 5));have AR:(oQ l).length<=5130:=hz_4;clear hz_0 hz_1 hz_2 hz_3 hz_4;generalize bst l 4=B0 at *;generalize oQ l=EC at *;go_wp2_with fail;refine(MJ.o _ XI.o).mono ?_;rintro e w3 ⟨⟨v3,rfl,fy⟩,aJ⟩;have dL:=ae fy;have QW:=ae (CN.o.kept aJ);have aY:=ae (fx.o.trans (aJ.mono (by simp)));have gy:=aJ.size;rw[jeB]at gy;clear fy aJ;go_wp2_with (first | (at_builtin;refine aC rfl _ _ rfl wr.heap.size _ _ [4] EC rfl QW.o rfl dL.o.sv ?c1 ?c2 ?_))
   case c1=>simp;omega
   case c2=>omega
   intro v4 w4 o4 b4;have gT:=ae (o4.low bF);have cL:=ae (aY.o.trans b4);have gU:=ae (HB.o.trans (cL.o.mono bF));have HOB:=ae (HO.o.kept cL.o);obtain⟨a4,c4,rfl⟩:=o4.len;clear o4 b4;by_cases ar:EC.length+1<B0.length
   ·rw[jey ar]at HT
    have Li:(EC.length:Int)+1<(B0.length:Int):=(by omega);clear ar;go_wp2_with fail;go_roundw
    case rel=>exact⟨5,by omega,by go_num,by rw[HT.o];exact gT.o,gU.o⟩
    case measure=>simp[intOf]
   ·rw[jex ar]at HT
    have Li:¬ (EC.length:Int)+1<(B0.length:Int):=(by omega);clear ar;go_wp2_with fail;go_roundw
    case rel=>exact⟨5,by omega,by go_num,by rw[HT.o];exact HOB.o,gU.o⟩
    case measure=>simp[intOf]
  ·go_wp2_with fail
   go_ret2
   exact⟨⟨_,rfl,HO.o⟩,HB.o⟩
def Za{w:World}{v:Value}{l:List Int}(hs:Sv w v (aO l))(hl:¬ l.length<=256) :
  Calls prog 170 #[v] w λe w'=>(∃ v',e=.returned (.tuple #[v',.bool false])/\aM w' w.heap.size v' [])/\jgu w w':=by
 obtain⟨a,cap,rfl,bg,bx⟩:=hs.form;have hm:l.length<=9223372036854775807:=by unfold maxLen at bx;omega
 have Gl:(l.length:Int) > 256:=by omega
 clear hs bg bx hl;go_enter func170,ntmps170
 go_wp2_with fail;go_ret2
 exact⟨⟨_,rfl,aM.nil _ _⟩,jez _ _⟩
def UB{w:World}{v:Value}{l:List Int}(hs:Sv w v (aO l))(hi:Is l) :
  Calls prog 170 #[v] w λe w'=>(∃ v',e=.returned (.tuple #[v',.bool (decide (l.length<=256))])/\aM w' w.heap.size v' (Uz l))/\jgu w w':=by
 unfold Uz;by_cases h:l.length<=256
 ·rw[jeP h,jey h]
  exact UA hs h hi
 ·rw[jeM h,jex h]
  exact Za hs h
def cA(l:List (List Nat)):List Value:=l.map txt
def eN(l:List (List Nat)):(cA l).length=l.length:=jeE _
def yH(a b:List (List Nat)):cA (a++b)=cA a++cA b:=jeR
def gF{l:List (List Nat)}{j:Nat}(h:j<l.length):(cA l)[j]?=some (txt l[j]):=by simp[cA,h]
def jn(W:World)(B:Nat)(v:Value)(l:List (List Nat)):Prop:=W.ownsRow B 9 1 v l.length (cA l)
def jn.nil(W:World)(B:Nat):jn W B (.slice none 0 0) []:=jfh _ _ _ _
def jn.kept{w w':World}{B:Nat}{v:Value}{l:List (List Nat)}(h:jn w B v l)(hb:jgu w w'):jn w' B v l:=bv h hb
def jn.sv{W:World}{B:Nat}{v:Value}{l:List (List Nat)}(h:jn W B v l):Sv W v (cA l):=Sv.of_own h
def info9:(prog.info? 9).map (λi=>(i.zero,i.size,i.bytes))=some (some (.string ⟨#[]⟩),1,16):=by kernel_rfl
def jB{w:World}{ops:Array Oper}{rest:List Oper}{o:Oper}{a:Act}{Q:Exit->Act->World->Prop}(ef:o.guard=none)(s x:Operand)
  (ho:o.op=.call { callee:=.builtin .append,args:=#[s,x],argTypes:=#[144,144] })
  (base:Nat) (v:Value) (g:Nat) (z:List Nat) (l0:List (List Nat)) (hs:a.eval s=v) (ax:jn w base v l0) (hx:a.eval x=.slice (some ⟨g,0,none⟩) 1 1) (hc:w.cell? ⟨g,0,none⟩=some (txt z))
  (hbytes:l0.length<=100000) (aF:base<=w.heap.size)
  (h:∀ v' w',jn w' base v' (l0++[z])->Below base w w'->wpList prog ops Q rest (a.put o.dst v') w') :
  wpList prog ops Q (o::rest) a w:=by
 obtain⟨i0,hi,bR,hz1',aX⟩:=jeT info9;unfold jn at *
 refine jfw (w:=w) ef s x 144 ho base 9 i0 (.string ⟨#[]⟩) 1 16 underlying144 hi bR hz1' aX rfl (by decide) v l0.length (cA l0) hs ax ⟨g,0,none⟩ 1 1 [txt z] hx rfl ?_ (λu hu=>by
  have:u=txt z:=by simpa using hu
  subst this;rfl) (by unfold maxLen;omega) (by omega) aF ?_
 ·intro j u hu
  rw[oP];cases j with
  | zero =>
   simp only[List.getElem?_cons_zero,Option.some.injEq]at hu;rw[<- hu];exact hc
  | succ j=>simp at hu
 ·intro v' w' o1 g1 _ _
  refine h v' w' ?_ ((jez base w).grown g1 aF (λk hk=>(ax.lt k hk).1));rw[yH,jeC];exact o1
def PC{l:List Int}(hl:l.length<=256):Uz l=dx l:=jey hl
def tq{w:World}{v:Value}{l:List Int}(hs:Sv w v (aO l))(hl:l.length<=256)(hi:Is l):Calls prog 126 #[v] w (ee w (dx l)):=by
 have HB:=ae (UB hs hi);rw[PC hl]at HB;clear hs hi;generalize dx l=bs at *;go_enter func126,ntmps126
 go_wp2_with fail;refine HB.o.mono ?_;rintro e w1 ⟨⟨v1,rfl,dM⟩,az⟩;have fX:=ae dM;have aL:=ae az;clear dM az;go_wp2_with fail;go_ret
 exact⟨⟨_,rfl,fX.o⟩,aL.o⟩
def Al{w:World}{v:Value}{l:List Nat}(hs:Sv w v (aA .u64 l))(h2:∀ x∈l,x<2):Calls prog 128 #[v] w (ee w (bi l 1)):=by
 have HB:=ae (zS hs.sx (λx hx=>by have:=h2 x hx;omega) 1);clear hs h2;generalize bi l 1=bs at *;generalize can l 1=bb at *;go_enter func128,ntmps128
 go_wp2_with fail;refine HB.o.mono ?_;rintro e w1 ⟨v1,rfl,dM,az⟩;have fX:=ae dM;have aL:=ae az;clear dM az;go_wp2_with fail;go_ret
 exact⟨⟨_,rfl,fX.o⟩,aL.o⟩
def xE(b:Bool)(w:World):Calls prog 169 #[.bool b] w λe w'=>e=.returned (.int .u64 (if b then 1 else 0))/\w'=w:=by
 cases b
 all_goals
  go_enter func169,ntmps169
  go_wp2;go_ret
  exact⟨rfl,rfl⟩
def iU(k:Nat)(w:World):Calls prog 167 #[.int .u8 (k:Int)] w λe w'=>e=.returned (.bool (decide (1<=k/\k<=3)))/\w'=w:=by
 by_cases h1:((k:Int)==1)=true
 ·have hk:k=1:=by have:(k:Int)=1:=(by simpa using h1);omega
  subst hk;go_enter func167,ntmps167
  go_wp2;go_ret
  exact⟨rfl,rfl⟩
 ·by_cases h2:((k:Int)==2)=true
  ·have hk:k=2:=by have:(k:Int)=2:=(by simpa using h2);omega
   subst hk;go_enter func167,ntmps167
   go_wp2;go_ret
   exact⟨rfl,rfl⟩
  ·by_cases h3:((k:Int)==3)=true
   ·have hk:k=3:=by have:(k:Int)=3:=(by simpa using h3);omega
    subst hk;go_enter func167,ntmps167
    go_wp2;go_ret
    exact⟨rfl,rfl⟩
   ·have h1':((k:Int)==1)=false:=by simpa using h1
    have h2':((k:Int)==2)=false:=by simpa using h2
    have h3':((k:Int)==3)=false:=by simpa using h3
    have HN:jgt (decide (1<=k/\k<=3)=false):=ae (by
     have a1:(k:Int)≠1:=by simpa using h1
     have a2:(k:Int)≠2:=by simpa using h2
     have a3:(k:Int)≠3:=by simpa using h3
     exact jeM (by omega))
    rw[HN.o];clear h1 h2 h3;go_enter func167,ntmps167
    go_wp2;go_ret
    exact⟨rfl,rfl⟩
def gM.fine{k:Nat}{c:jgw}(h:gM k c):aI c:=by
 rcases h with h | ⟨_,h⟩ | ⟨_,h⟩ | ⟨_,h⟩
 ·exact Or.inl h
 ·exact Or.inr (Or.inl h)
 ·exact Or.inr (Or.inr (Or.inl h))
 ·exact Or.inr (Or.inr (Or.inr h))
def aI.cellk{k:Nat}{c:jgw}(h:aI c)(hk:c.1=0∨c.1=k):gM k c:=by
 rcases h with h | ⟨n,rfl,h⟩ | ⟨n,rfl,h⟩ | ⟨n,rfl,h⟩
 ·exact Or.inl h
 ·have:k=1:=by simp at hk;omega
  exact Or.inr (Or.inl ⟨this,n,rfl,h⟩)
 ·have:k=2:=by simp at hk;omega
  exact Or.inr (Or.inr (Or.inl ⟨this,n,rfl,h⟩))
 ·have:k=3:=by simp at hk;omega
  exact Or.inr (Or.inr (Or.inr ⟨this,n,rfl,h⟩))
def kF{l:jgv}{j:Nat}(h:j<l.length):bP (l.take (j+1))=bP (l.take j)++(if l[j].1=0 then [] else [l[j]]):=by
 unfold bP;rw[jeO h,jf9];congr 1
 by_cases h0:l[j].1=0
 ·simp[h0]
 ·simp[h0]
def lw(l:jgv)(j:Nat):(bP (l.take j)).length<=l.length:=by
 have:=jf (l.take j);rw[jeH]at this;omega
def JK{w:World}{v:Value}{l:jgv}(hs:Sv w v (aE l))(hl:l.length<=256)(hc:∀ c∈l,gM 1 c) :
  Calls prog 127 #[v] w λe w'=>(∃ v',e=.returned v'/\co w' w.heap.size v' ((bP l).map λc=>c.2.1))/\jgu w w':=by
 have HS:=ae hs;have HC:=ae hc;obtain⟨a,cap,rfl,bg,bx⟩:=hs.form1;rw[ay]at *;have t1:=Ba;have t2:=Hc;have hcm':cap<=9223372036854775807:=by unfold maxLen at bx;omega
 clear hs hc bx;go_enter func127,ntmps127
 go_wp2_with fail;go_loopw [3,10] (λo i wr=>∃ j:Nat,j<=l.length/\i=.int .i64 (j:Int)/\co wr w.heap.size o ((bP (l.take j)).map λc=>c.2.1)/\jgu w wr) (λ_ i _=>l.length-(intOf i).toNat)
 case atStart=>exact⟨0,by omega,rfl,co.nil _ _,jez _ _⟩
 case round =>
  obtain⟨j,hj,rfl,ax,ao⟩:=hrel;have HO:=ae ax;have HB:=ae ao;have bF:=ao.size;clear ax ao;by_cases ar:j<l.length
  ·obtain⟨b,off,rfl,hb,bC⟩:=HS.o.at1 (cw ar)
   have hcell':=(HB.o.cell (p:=⟨b,off+j,none⟩) hb).trans bC;have HT:=ae (kF ar);have bH:=lw l j;have eP:=HC.o l[j] (jeD ar);have hlt':(j:Int)<(l.length:Int):=(by omega);clear bC;generalize l[j]=c at *;rcases eP with rfl | ⟨_,n,rfl,hn⟩ | ⟨hk,_⟩ | ⟨hk,_⟩
   ·simp only[nul,cz,if_true]at hcell'
    have HT':jgt (bP (l.take (j+1))=bP (l.take j)):=ae (by
     have:=HT.o;simpa [nul]using this)
    clear HT;go_wp2_with fail;go_roundw
    case rel=>exact⟨j+1,by omega,by go_num,by rw[HT'.o];exact HO.o,HB.o⟩
    case measure=>simp[intOf];omega
   ·simp only[cz]at hcell'
    have HT':jgt ((bP (l.take (j+1))).map (λc=>c.2.1)=((bP (l.take j)).map λc=>c.2.1)++[n]):=ae (by
     have:=HT.o;simp only[show (1:Nat)≠0 from by omega,if_false]at this;rw[this,jeR];rfl)
    have hlen':((bP (l.take j)).map λc=>c.2.1).length<=100000:=by rw[jeE];omega
    clear HT;generalize ((bP (l.take j)).map λc=>c.2.1)=L at *;go_wp2_with (first | (at_builtin;refine dv rfl _ _ rfl w.heap.size _ _ n L rfl (HO.o.kept (aj _ _)) rfl (aV _ _ _) hlen' ?c2 ?_))
    case c2=>first | omega | (rw[jeB];omega)
    intro v' w2 o2 b2;have eb:=ae o2;have aG:=ae ((HB.o.alloc bF _).trans b2);clear o2 b2;go_wp2_with fail;go_roundw
    case rel=>exact⟨j+1,by omega,by go_num,by rw[HT'.o];exact eb.o,aG.o⟩
    case measure=>simp[intOf];omega
   ·omega
   ·omega
  ·have:j=l.length:=by omega
   subst this;have ed:¬ ((l.length:Nat):Int)<(l.length:Int):=(by omega);rw[jeJ]at HO;go_wp2_with fail;go_ret
   exact⟨⟨_,rfl,HO.o⟩,HB.o⟩
def JL{w:World}{v:Value}{l:jgv}(hs:Sv w v (aE l))(hl:l.length<=256)(hc:∀ c∈l,gM 3 c) :
  Calls prog 131 #[v] w λe w'=>(∃ v',e=.returned v'/\jn w' w.heap.size v' ((bP l).map λc=>c.2.2))/\jgu w w':=by
 have HS:=ae hs;have HC:=ae hc;obtain⟨a,cap,rfl,bg,bx⟩:=hs.form1;rw[ay]at *;have t1:=Bd;have t2:=He;have hcm':cap<=9223372036854775807:=by unfold maxLen at bx;omega
 clear hs hc bx;go_enter func131,ntmps131
 go_wp2_with fail;go_loopw [3,10] (λo i wr=>∃ j:Nat,j<=l.length/\i=.int .i64 (j:Int)/\jn wr w.heap.size o ((bP (l.take j)).map λc=>c.2.2)/\jgu w wr) (λ_ i _=>l.length-(intOf i).toNat)
 case atStart=>exact⟨0,by omega,rfl,jn.nil _ _,jez _ _⟩
 case round =>
  obtain⟨j,hj,rfl,ax,ao⟩:=hrel;have HO:=ae ax;have HB:=ae ao;have bF:=ao.size;clear ax ao;by_cases ar:j<l.length
  ·obtain⟨b,off,rfl,hb,bC⟩:=HS.o.at1 (cw ar)
   have hcell':=(HB.o.cell (p:=⟨b,off+j,none⟩) hb).trans bC;have HT:=ae (kF ar);have bH:=lw l j;have eP:=HC.o l[j] (jeD ar);have hlt':(j:Int)<(l.length:Int):=(by omega);clear bC;generalize l[j]=c at *;rcases eP with rfl | ⟨hk,_⟩ | ⟨hk,_⟩ | ⟨_,n,rfl,hn⟩
   ·simp only[nul,cz,if_true]at hcell'
    have HT':jgt (bP (l.take (j+1))=bP (l.take j)):=ae (by
     have:=HT.o;simpa [nul]using this)
    clear HT;go_wp2_with fail;go_roundw
    case rel=>exact⟨j+1,by omega,by go_num,by rw[HT'.o];exact HO.o,HB.o⟩
    case measure=>simp[intOf];omega
   ·omega
   ·omega
   ·simp only[cz,gB,show (3:Nat)≠0 from by omega,show (3:Nat)≠1 from by omega,show (3:Nat)≠2 from by omega,if_false]at hcell'
    have HT':jgt ((bP (l.take (j+1))).map (λc=>c.2.2)=((bP (l.take j)).map λc=>c.2.2)++[n]):=ae (by
     have:=HT.o;simp only[show (3:Nat)≠0 from by omega,if_false]at this;rw[this,jeR];rfl)
    have hlen':((bP (l.take j)).map λc=>c.2.2).length<=100000:=by rw[jeE];omega
    clear HT;generalize ((bP (l.take j)).map λc=>c.2.2)=L at *;go_wp2_with (first | (at_builtin;refine jB rfl _ _ rfl w.heap.size _ _ n L rfl (HO.o.kept (aj _ _)) rfl (aV _ _ _) hlen' ?c2 ?_))
    case c2=>first | omega | (rw[jeB];omega)
    intro v' w2 o2 b2;have eb:=ae o2;have aG:=ae ((HB.o.alloc bF _).trans b2);clear o2 b2;go_wp2_with fail;go_roundw
    case rel=>exact⟨j+1,by omega,by go_num,by rw[HT'.o];exact eb.o,aG.o⟩
    case measure=>simp[intOf];omega
  ·have:j=l.length:=by omega
   subst this;have ed:¬ ((l.length:Nat):Int)<(l.length:Int):=(by omega);rw[jeJ]at HO;go_wp2_with fail;go_ret
   exact⟨⟨_,rfl,HO.o⟩,HB.o⟩
def JM{w:World}{v:Value}{l:jgv}(hs:Sv w v (aE l))(hl:l.length<=256)(hc:∀ c∈l,gM 2 c) :
  Calls prog 129 #[v] w λe w'=>(∃ v',e=.returned v'/\eS w' w.heap.size v' ((bP l).map λc=>c.2.1.toNat))/\jgu w w':=by
 have HS:=ae hs;have HC:=ae hc;obtain⟨a,cap,rfl,bg,bx⟩:=hs.form1;rw[ay]at *;have t1:=Bc;have t2:=Hd;have hcm':cap<=9223372036854775807:=by unfold maxLen at bx;omega
 clear hs hc bx;go_enter func129,ntmps129
 go_wp2_with fail;go_loopw [3,10] (λo i wr=>∃ j:Nat,j<=l.length/\i=.int .i64 (j:Int)/\eS wr w.heap.size o ((bP (l.take j)).map λc=>c.2.1.toNat)/\jgu w wr) (λ_ i _=>l.length-(intOf i).toNat)
 case atStart=>exact⟨0,by omega,rfl,eS.nil _ _,jez _ _⟩
 case round =>
  obtain⟨j,hj,rfl,ax,ao⟩:=hrel;have HO:=ae ax;have HB:=ae ao;have bF:=ao.size;clear ax ao;by_cases ar:j<l.length
  ·obtain⟨b,off,rfl,hb,bC⟩:=HS.o.at1 (cw ar)
   have hcell':=(HB.o.cell (p:=⟨b,off+j,none⟩) hb).trans bC;have HT:=ae (kF ar);have bH:=lw l j;have eP:=HC.o l[j] (jeD ar);have hlt':(j:Int)<(l.length:Int):=(by omega);clear bC;generalize l[j]=c at *;rcases eP with rfl | ⟨hk,_⟩ | ⟨_,n,rfl,hn⟩ | ⟨hk,_⟩
   ·simp only[nul,cz,if_true]at hcell'
    have HT':jgt (bP (l.take (j+1))=bP (l.take j)):=ae (by
     have:=HT.o;simpa [nul]using this)
    clear HT;go_wp2_with fail;go_roundw
    case rel=>exact⟨j+1,by omega,by go_num,by rw[HT'.o];exact HO.o,HB.o⟩
    case measure=>simp[intOf];omega
   ·omega
   ·simp only[cz,show (2:Nat)≠0 from by omega,show (2:Nat)≠1 from by omega,if_false,if_true]at hcell'
    have QP:jgt (∀ W:World,Calls prog 169 #[.bool (decide ((n:Int)=1))] W λe w'=>e=.returned (.int .u64 (n:Int))/\w'=W):=ae (λW=>by
     have:=xE (decide ((n:Int)=1)) W;obtain rfl | rfl:n=0∨n=1:=by omega
     ·exact this
     ·exact this)
    generalize decide ((n:Int)=1)=bb at *
    have HT':jgt ((bP (l.take (j+1))).map (λc=>c.2.1.toNat)=((bP (l.take j)).map λc=>c.2.1.toNat)++[n]):=ae (by
     have:=HT.o;simp only[show (2:Nat)≠0 from by omega,if_false]at this;rw[this,jeR];simp)
    have hlen':((bP (l.take j)).map λc=>c.2.1.toNat).length<=100000:=by rw[jeE];omega
    clear HT;generalize ((bP (l.take j)).map λc=>c.2.1.toNat)=L at *;go_wp2_with fail;refine(QP.o _).mono ?_;rintro e wq ⟨rfl,rfl⟩;go_wp2_with (first | (at_builtin;refine vj rfl _ _ rfl w.heap.size _ _ n L rfl (HO.o.kept (aj _ _)) rfl (aV _ _ _) hlen' ?c2 ?_))
    case c2=>first | omega | (rw[jeB];omega)
    intro v' w2 o2 b2;have eb:=ae o2;have aG:=ae ((HB.o.alloc bF _).trans b2);clear o2 b2;go_wp2_with fail;go_roundw
    case rel=>exact⟨j+1,by omega,by go_num,by rw[HT'.o];exact eb.o,aG.o⟩
    case measure=>simp[intOf];omega
   ·omega
  ·have:j=l.length:=by omega
   subst this;have ed:¬ ((l.length:Nat):Int)<(l.length:Int):=(by omega);rw[jeJ]at HO;go_wp2_with fail;go_ret
   exact⟨⟨_,rfl,HO.o⟩,HB.o⟩
def Am{k:Nat}{l:jgv}(h:¬ (1<=k/\k<=3/\∀ c∈l,c.1=0∨c.1=k)):(fT k l).2=10:=by
 unfold fT;rw[jex h]
def JN{k:Nat}{l:jgv}(hk:1<=k/\k<=3)(hf:∀ c∈l,aI c)(h:∀ c∈l,c.1=0∨c.1=k):(fT k l).2=if 256<l.length then 5 else 0:=by
 unfold fT;rw[jey ⟨hk.1,hk.2,h⟩];by_cases h2:256<l.length
 ·rw[jex (by omega),jey h2]
 ·rw[jey ⟨by omega,λc hc=>((hf c hc).cellk (h c hc)).short⟩,jex h2]
def aI.size{c:jgw}(h:aI c):c.1<=3/\c.2.2.length<=64:=by
 rcases h with rfl | ⟨n,rfl,_⟩ | ⟨n,rfl,_⟩ | ⟨s,rfl,hs,_⟩
 ·simp[nul]
 ·simp
 ·simp
 ·exact⟨by simp,hs⟩
def JO{w:World}{v:Value}{l:jgv}(hs:Sv w v (aE l))(hf:∀ c∈l,aI c)(k:Nat) :
  Calls prog 122 #[.int .u8 (k:Int),v] w λe w'=>e=.returned (.int .i64 ((fT k l).2:Int))/\jgu w w':=by
 have HS:=ae hs;have HF:=ae hf;obtain⟨a,cap,rfl,bg,bx⟩:=hs.form1;rw[ay]at *;have hcm':cap<=9223372036854775807:=by unfold maxLen at bx;omega
 have HK:=ae (iU k);by_cases hk:1<=k/\k<=3
 ·rw[jeP hk]at HK
  have HE:=ae (JN (l:=l) hk hf);have HN:=ae (Am (k:=k) (l:=l));clear hs hf bx hk
  have HL:jgt (decide ((l.length:Int) > 256)=decide (256<l.length)):=ae (by
   by_cases h:256<l.length
   ·rw[jeP h,jeP (by omega)]
   ·rw[jeM h,jeM (by omega)])
  go_enter func122,ntmps122
  go_wp2_with fail;refine(HK.o _).mono ?_;rintro e w1 ⟨rfl,rfl⟩;go_wp2_with fail;rw[HL.o];generalize jbj:decide (256<l.length)=lg;have HLG:=ae jbj;clear jbj;go_loopw [5,18] (λo i wr=>∃ j:Nat,j<=l.length/\o=.bool lg/\i=.int .i64 (j:Int)/\(∀ c∈l.take j,c.1=0∨c.1=k)/\jgu w1 wr) (λ_ i _=>l.length-(intOf i).toNat)
  case atStart=>exact⟨0,by omega,rfl,rfl,λc hc=>by simp at hc,jez _ _⟩
  case round =>
   obtain⟨j,hj,rfl,rfl,ch,ao⟩:=hrel;have HA:=ae ch;have HB:=ae ao;have bF:=ao.size;clear ch ao;by_cases ar:j<l.length
   ·obtain⟨b,off,rfl,hb,bC⟩:=HS.o.at1 (cw ar)
    have hcell':=(HB.o.cell (p:=⟨b,off+j,none⟩) hb).trans bC;have WP:=HF.o l[j] (jeD ar);have HM:=ae (jeD ar)
    have HT:jgt (∀ c,c∈l.take (j+1)->c∈l.take j∨c=l[j]):=ae (λc hc=>by
     rw[jeO ar]at hc;rcases je1.1 hc with h | h
     ·exact Or.inl h
     ·exact Or.inr (by simpa using h))
    have hlt':(j:Int)<(l.length:Int):=(by omega);obtain⟨Gx,hc64⟩:=WP.size;have hnot64:¬ 64<((bytesT l[j].2.2).size:Int):=by rw[be];omega
    have HV:=ae (λW=>ki WP.val W);clear bC WP hc64;generalize l[j]=c at *;obtain⟨ck,cn,cs⟩:=c;simp only at *;generalize cz (ck,cn,cs)=vc at *;generalize bytesT cs=S at *;by_cases h0:((ck:Int) != 0)=true
    ·by_cases h1:((ck:Int) != (k:Int))=true
     ·have HN':jgt ((fT k l).2=10):=ae (HN.o (λh=>by
       have:=h.2.2 _ HM.o;simp at h0 h1 this
       omega))
      go_wp2_with fail;refine(HV.o _).mono ?_;rintro e w2 ⟨rfl,ap⟩;have aG:=ae ap;have aX:=ap.size;clear ap;go_wp2_with fail;go_ret
      rw[HN'.o];exact⟨rfl,(HB.o.trans (aG.o.mono bF)).alloc (by omega) _⟩
     ·have h1':((ck:Int) != (k:Int))=false:=by simpa using h1
      have eP:ck=k:=by
       have:(ck:Int)=(k:Int):=by simpa using h1
       omega
      have lE:=ae eP;clear h1 eP;go_wp2_with fail;refine(HV.o _).mono ?_;rintro e w2 ⟨rfl,ap⟩;have aG:=ae ap;have aX:=ap.size;clear ap;cases lg
      ·go_wp2_with fail
       go_roundw
       case rel=>exact⟨j+1,by omega,jeG Value.bool (jeM (by omega)),by go_num,λc hc=>(HT.o c hc).elim (HA.o c) (λe=>by rw[e];exact Or.inr lE.o),(HB.o.trans (aG.o.mono bF)).alloc (by omega) _⟩
       case measure=>simp[intOf];omega
      ·go_wp2_with fail
       go_roundw
       case rel=>exact⟨j+1,by omega,rfl,by go_num,λc hc=>(HT.o c hc).elim (HA.o c) (λe=>by rw[e];exact Or.inr lE.o),(HB.o.trans (aG.o.mono bF)).alloc (by omega) _⟩
       case measure=>simp[intOf];omega
    ·have h0':((ck:Int) != 0)=false:=by simpa using h0
     have eP:ck=0:=by
      have:(ck:Int)=0:=by simpa using h0
      omega
     have lE:=ae eP;clear h0 eP;go_wp2_with fail;refine(HV.o _).mono ?_;rintro e w2 ⟨rfl,ap⟩;have aG:=ae ap;have aX:=ap.size;clear ap;cases lg
     ·go_wp2_with fail
      go_roundw
      case rel=>exact⟨j+1,by omega,jeG Value.bool (jeM (by omega)),by go_num,λc hc=>(HT.o c hc).elim (HA.o c) (λe=>by rw[e];exact Or.inl lE.o),(HB.o.trans (aG.o.mono bF)).alloc (by omega) _⟩
      case measure=>simp[intOf];omega
     ·go_wp2_with fail
      go_roundw
      case rel=>exact⟨j+1,by omega,rfl,by go_num,λc hc=>(HT.o c hc).elim (HA.o c) (λe=>by rw[e];exact Or.inl lE.o),(HB.o.trans (aG.o.mono bF)).alloc (by omega) _⟩
      case measure=>simp[intOf];omega
   ·have:j=l.length:=by omega
    subst this;rw[jeJ]at HA;have HE':=ae (HE.o HA.o);have ed:¬ ((l.length:Nat):Int)<(l.length:Int):=(by omega);cases lg
    ·have hn:¬ 256<l.length:=of_decide_eq_false HLG.o
     rw[jex hn]at HE';go_wp2_with fail;go_ret
     rw[HE'.o];exact⟨rfl,HB.o⟩
    ·have hn:256<l.length:=of_decide_eq_true HLG.o
     rw[jey hn]at HE';go_wp2_with fail;go_ret
     rw[HE'.o];exact⟨rfl,HB.o⟩
 ·rw[jeM hk]at HK
  have HN:jgt ((fT k l).2=10):=ae (Am (λh=>hk ⟨h.1,h.2.1⟩));clear hs hf bx hk;go_enter func122,ntmps122
  go_wp2_with fail;refine(HK.o _).mono ?_;rintro e w1 ⟨rfl,rfl⟩;go_wp2_with fail;go_ret
  rw[HN.o];exact⟨rfl,jez _ _⟩
def stp(c:Nat):Nat:=c / 2 ^^^ (if c % 2=1 then 3988292384 else 0)
def fo:Nat->Nat->Nat
 | 0,c=>c
 | n+1,c=>fo n (stp c)
def UC{c:Nat}(h:c<4294967296):stp c<4294967296:=by
 have:stp c<2 ^ 32:=by
  unfold stp;apply jgm
  ·omega
  ·split<;>omega
 omega
def Zb(a b:Nat):(a ^^^ b) % 2=(a+b) % 2:=by
 have h:(a ^^^ b).testBit 0=((a.testBit 0) ^^ (b.testBit 0)):=Nat.testBit_xor _ _ _;simp only[Nat.testBit_zero]at h;have ha:a % 2=0∨a % 2=1:=by omega
 have hb:b % 2=0∨b % 2=1:=by omega
 have hc:(a ^^^ b) % 2=0∨(a ^^^ b) % 2=1:=by omega
 generalize (a ^^^ b) % 2=z at *;rcases ha with ha | ha<;>rcases hb with hb | hb<;>rcases hc with hc | hc<;>simp[ha,hb,hc]at h<;>omega
def EI{a b:Nat}(h:a ^^^ b=0):a=b:=by
 have:=jeG (λz=>z ^^^ b) h;simpa only[jfE,Nat.xor_self,Nat.xor_zero,Nat.zero_xor]using this
def Zc(a b:Nat):stp (a ^^^ b)=stp a ^^^ stp b:=by
 unfold stp;have h1:(a ^^^ b) / 2=a / 2 ^^^ b / 2:=Nat.xor_div_two;have h2:(a ^^^ b) % 2=(a+b) % 2:=Zb a b;rw[h1];have ha:a % 2=0∨a % 2=1:=by omega
 have hb:b % 2=0∨b % 2=1:=by omega
 rcases ha with ha | ha<;>rcases hb with hb | hb
 ·have h3:(a ^^^ b) % 2=0:=by omega
  simp[ha,hb,h3]
 ·have h3:(a ^^^ b) % 2=1:=by omega
  simp[ha,hb,h3,jfE]
 ·have h3:(a ^^^ b) % 2=1:=by omega
  simp[ha,hb,h3,jfE]
  rw[Nat.xor_comm (b / 2)]
 ·have h3:(a ^^^ b) % 2=0:=by omega
  simp only[ha,hb,h3];simp only[jey,Nat.xor_zero,Nat.zero_ne_one,if_false];generalize 3988292384=p;rw[jfE,Nat.xor_comm (b / 2) p,<- jfE p,Nat.xor_self,Nat.zero_xor]
def UD(x:Nat):stp (2*x)=x:=by
 unfold stp;rw[jex (by omega)];simp
def UE{c:Nat}(h:c<4294967296)(h0:stp c=0):c=0:=by
 unfold stp at h0;by_cases hc:c % 2=1
 ·rw[jey hc]at h0
  have:c / 2=3988292384:=EI h0;omega
 ·rw[jex hc,Nat.xor_zero]at h0
  omega
def vV:∀(n:Nat) {c:Nat},c<4294967296->fo n c<4294967296
 | 0,_,h=>h
 | n+1,_,h=>vV n (UC h)
def rx:∀(n a b:Nat),fo n (a ^^^ b)=fo n a ^^^ fo n b
 | 0,_,_=>rfl
 | n+1,a,b=>by rw[fo,fo,fo,Zc,rx n]
def ry:∀(m n c:Nat),fo (m+n) c=fo n (fo m c)
 | 0,n,c=>by rw[jeU];rfl
 | m+1,n,c=>by rw[Nat.add_right_comm,fo,fo,ry m n]
def my:∀(n x:Nat),fo n (2 ^ n*x)=x
 | 0,x=>by simp[fo]
 | n+1,x=>by
  rw[fo,Nat.pow_succ,je6 (2 ^ n) 2,jfR,UD,my n]
def An:∀(n:Nat) {c:Nat},c<4294967296->fo n c=0->c=0
 | 0,_,_,h0=>h0
 | n+1,_,h,h0=>UE h (An n (UC h) h0)
def kg{a r n:Nat}(h:a<2 ^ n):a+2 ^ n*r=a ^^^ (2 ^ n*r):=by
 apply Nat.eq_of_testBit_eq
 intro i;rw[Nat.testBit_xor,Nat.add_comm,Nat.testBit_two_pow_mul_add _ h,Nat.testBit_two_pow_mul];by_cases hi:i<n
 ·rw[jey hi]
  simp[show ¬ n<=i by omega]
 ·rw[jex hi]
  have h1:a.testBit i=false:=Nat.testBit_lt_two_pow (jeY h (jf1 (by omega) (by omega)));simp[h1,show n<=i by omega]
def PD(n c:Nat):fo n c=fo n (c % 2 ^ n) ^^^ c / 2 ^ n:=by
 have h:c=c % 2 ^ n ^^^ (2 ^ n*(c / 2 ^ n)):=by
  rw[<- kg (Nat.mod_lt _ (jfv n))];exact(Nat.mod_add_div c (2 ^ n)).symm
 conv=>lhs;rw[h]
 rw[rx,my]
def byt(c x:Nat):Nat:=fo 8 (c ^^^ x)
def run(c:Nat)(b:List Nat):Nat:=b.foldl byt c
def ts(c:Nat)(b:List Nat):Nat:=run (c ^^^ 4294967295) b ^^^ 4294967295
def EJ(c x:Nat)(b:List Nat):run c (x::b)=run (byt c x) b:=rfl
def JP(c:Nat)(a b:List Nat):run c (a++b)=run (run c a) b:=List.foldl_append
def UF(c x:Nat)(b:List Nat):run c (b++[x])=byt (run c b) x:=by rw[JP];rfl
def nJ{a b:Nat}(ha:a<4294967296)(hb:b<4294967296):a ^^^ b<4294967296:=by
 have:a ^^^ b<2 ^ 32:=jgm (by omega) (by omega);omega
def jcg{c x:Nat}(h:c<4294967296)(hx:x<256):byt c x<4294967296:=vV 8 (nJ h (by omega))
def BV:∀{b:List Nat} {c:Nat},c<4294967296->(∀ x∈b,x<256)->run c b<4294967296
 | [],_,h,_=>h
 | x::b,c,h,hb=>by
  rw[EJ];exact BV (jcg h (hb x (by simp))) λy hy=>hb y (by simp[hy])
def BW{b:List Nat}{c:Nat}(h:c<4294967296)(hb:∀ x∈b,x<256):ts c b<4294967296:=nJ (BV (nJ h (by omega)) hb) (by omega)
def UG(a p:Nat):a ^^^ p ^^^ p=a:=by rw[jfE,Nat.xor_self,Nat.xor_zero]
def leN:List Nat->Nat
 | []=>0
 | x::b=>x+256*leN b
def JQ:∀{b:List Nat},(∀ x∈b,x<256)->leN b<2 ^ (8*b.length)
 | [],_=>by simp[leN]
 | x::b,h=>by
  have h1:=JQ (b:=b) λy hy=>h y (by simp[hy])
  have h2:=h x (by simp);rw[leN,jeI,jfI,jfD];omega
def BX:∀{b:List Nat} (c:Nat),(∀ x∈b,x<256)->run c b=fo (8*b.length) (c ^^^ leN b)
 | [],c,_=>by simp[run,leN,fo]
 | x::b,c,h=>by
  have hx:x<2 ^ 8:=h x (by simp);rw[EJ,BX (byt c x) λy hy=>h y (by simp[hy]),jeI,jfI,Nat.add_comm (8*b.length),ry,leN];congr 1
  have e:x+256*leN b=x ^^^ (2 ^ 8*leN b):=kg hx;rw[e,<- jfE,rx,my];rfl
def PE{a b:List Nat}{c X f:Nat}(ha:∀ x∈a,x<256)(hb:∀ x∈b,x<256)(hl:a.length=b.length)(hX:X<4294967296)(hf:f<=8*a.length)
  (h:leN b=leN a ^^^ (2 ^ f*X)) (he:run c a=run c b):X=0:=by
 rw[BX c ha,BX c hb,<- hl,h,<- jfE,rx _ (c ^^^ leN a)]at he
 have h0:fo (8*a.length) (2 ^ f*X)=0:=by
  have:=jeG (λz=>fo (8*a.length) (c ^^^ leN a) ^^^ z) he;simp only[Nat.xor_self,<- jfE,Nat.zero_xor]at this;exact this.symm
 rw[show 8*a.length=f+(8*a.length-f) by omega,ry,my]at h0;exact An _ hX h0
def JR{a b:List Nat}{c X f:Nat}(ha:∀ x∈a,x<256)(hb:∀ x∈b,x<256)(hl:a.length=b.length)(hX:X<4294967296)(hf:f<=8*a.length)
  (h:leN b=leN a ^^^ (2 ^ f*X)) (he:ts c a=ts c b):X=0:=by
 refine PE (c:=c ^^^ 4294967295) ha hb hl hX hf h ?_;have:=jeG (λz=>z ^^^ 4294967295) he;unfold ts at this;simpa only[UG]using this
def Mg:∀{b:List Nat} {j y:Nat} (hj:j<b.length),(∀ x∈b,x<256)->y<256->leN (b.set j (b[j] ^^^ y))=leN b ^^^ (2 ^ (8*j)*y)
 | [],j,y,hj,_,_=>by simp at hj
 | x::b,0,y,_,h,hy=>by
  have hx:x<2 ^ 8:=h x (by simp);have GI:x ^^^ y<2 ^ 8:=jgm hx hy;simp only[jf6,jfY,leN];have e1:x+256*leN b=x ^^^ (2 ^ 8*leN b):=kg hx;have e2:(x ^^^ y)+256*leN b=(x ^^^ y) ^^^ (2 ^ 8*leN b):=kg GI;rw[e1,e2,Nat.mul_zero,Nat.pow_zero,jfT,jfE,Nat.xor_comm y,<- jfE]
 | x::b,j+1,y,hj,h,hy=>by
  have hx:x<2 ^ 8:=h x (by simp);have ih:=Mg (b:=b) (j:=j) (y:=y) (by simpa using hj) (λz hz=>h z (by simp[hz])) hy;simp only[jgn,List.getElem_cons_succ,leN];rw[ih];have e1:x+256*leN b=x ^^^ (2 ^ 8*leN b):=kg hx;have e2:x+256*(leN b ^^^ 2 ^ (8*j)*y)=x ^^^ (2 ^ 8*(leN b ^^^ 2 ^ (8*j)*y)):=kg hx;rw[e1,e2,jfE];congr 1
  have e3:2 ^ 8*(leN b ^^^ 2 ^ (8*j)*y)=2 ^ 8*leN b ^^^ 2 ^ 8*(2 ^ (8*j)*y):=by
   apply Nat.eq_of_testBit_eq
   intro i;simp only[Nat.testBit_xor,Nat.testBit_two_pow_mul];cases decide (i>=8)<;>simp
  rw[e3,<- jfR,<- jfD,jfI,Nat.add_comm 8]
def le4(s:Nat):List Nat:=[s % 256,s / 256 % 256,s / 65536 % 256,s / 16777216 % 256]
def tu(s:Nat):∀ x∈le4 s,x<256:=by
 intro x hx;simp[le4]at hx
 omega
def BZ{s:Nat}(h:s<4294967296):leN (le4 s)=s:=by
 simp[le4,leN]
 omega
def Zd{s t:Nat}(hs:s<4294967296)(ht:t<4294967296)(h:le4 s=le4 t):s=t:=by
 rw[<- BZ hs,<- BZ ht,h]
def bG(b:List Nat):List Nat:=b++le4 (ts 0 b)
def kh(b:List Nat):(bG b).length=b.length+4:=by simp[bG,le4]
def jo(b:List Nat):Option (List Nat) :=
 if 4<=b.length/\bG (b.take (b.length-4))=b then some (b.take (b.length-4)) else none
def JS(b:List Nat):jo (bG b)=some b:=by
 unfold jo
 have h:(bG b).take ((bG b).length-4)=b:=by
  rw[kh,Nat.add_sub_cancel];unfold bG;rw[jfo]
 rw[h,jey ⟨by rw[kh];omega,rfl⟩]
def Ca{b:List Nat}{j y:Nat}(hb:∀ x∈b,x<256)(hj:j<(bG b).length)(hy:y<256)(h0:y≠0):jo ((bG b).set j ((bG b)[j] ^^^ y))=none:=by
 unfold jo;rw[jex];rintro⟨_,h⟩;have eg:=kh b;rw[jf7,eg,Nat.add_sub_cancel]at h
 have hsb:∀ x∈bG b,x<256:=by
  intro x hx;rcases je1.1 hx with hx | hx
  ·exact hb x hx
  ·exact tu _ x hx
 have hv:(bG b)[j] ^^^ y<256:=by
  have:(bG b)[j] ^^^ y<2 ^ 8:=jgm (hsb _ (jeD hj)) hy;omega
 have dC:(bG b)[j] ^^^ y≠(bG b)[j]:=by
  intro e;have:=jeG (λz=>(bG b)[j] ^^^ z) e;simp only[<- jfE,Nat.xor_self,Nat.zero_xor]at this;exact h0 this
 by_cases hjb:j<b.length
 ·have e1:(bG b).set j ((bG b)[j] ^^^ y)=b.set j (b[j] ^^^ y)++le4 (ts 0 b):=by
   have hg:(bG b)[j]=b[j]:=jgp hjb;rw[hg];unfold bG;rw[List.set_append_left _ _ hjb]
  have iV:(b.set j (b[j] ^^^ y)).length=b.length:=jf7;rw[e1,List.take_append_of_le_length (by rw[iV];exact jeA _),jfi (by rw[iV];exact jeA _)]at h;unfold bG at h;have h2:=List.append_cancel_left h
  have ap:∀ x∈b.set j (b[j] ^^^ y),x<256:=by
   intro x hx;rcases List.mem_or_eq_of_mem_set hx with hx | rfl
   ·exact hb x hx
   ·have:b[j] ^^^ y<2 ^ 8:=jgm (hb _ (jeD hjb)) hy
    omega
  have h3:=Zd (BW (by omega) ap) (BW (by omega) hb) h2;exact h0 (JR (c:=0) (X:=y) (f:=8*j) hb ap iV.symm (by omega) (by omega) (Mg hjb hb hy) h3.symm)
 ·have e1:((bG b).set j ((bG b)[j] ^^^ y)).take b.length=b:=by
   rw[List.take_set_of_le (by omega)];unfold bG;rw[jfo]
  rw[e1]at h;have:=jeG (λl:List Nat=>l[j]?) h;simp only[List.getElem?_set_self hj,List.getElem?_eq_getElem hj,Option.some.injEq]at this;exact dC this.symm
end Go.Proofs.YtpljdjmpamjkhaaGreatDoor
