/- The bounds: lowBound, highBound. Stats. The bounds of statistics hold each value; no program. -/
import Derived.Test.YtpljdjmpamjkhaaGreatDoorZas
set_option linter.unusedVariables false
set_option linter.unusedSimpArgs false
set_option maxRecDepth 100000
set_option maxHeartbeats 2000000
namespace Go.Proofs.YtpljdjmpamjkhaaGreatDoor
open Go.RowKit Go.Lib
def nb (l:List UInt8):List Nat:=l.map UInt8.toNat
theorem bytesT_nb (l:List UInt8):bytesT (nb l)=⟨l.toArray⟩:=by
 unfold bytesT nb
 congr 1
 rw [List.map_map]
 have:(Nat.toUInt8 ∘ UInt8.toNat)=id:=by funext x;simp
 rw [this,List.map_id]
theorem lb_nb (l:List UInt8):lb (bytesT (nb l))=l:=by rw [bytesT_nb];rfl
theorem nb_of {t:ByteArray} {l:List UInt8} (h:lb t=l):t=bytesT (nb l):=lb_inj (by rw [lb_nb,h])
theorem nb_bs (l:List UInt8):Bs (nb l):=fun x hx=>by
 unfold nb at hx
 obtain ⟨y,_,rfl⟩:=List.mem_map.1 hx
 exact UInt8.toNat_lt y
def lowM (x:Cl) (cl:Bool):Cl:=if x.1=3/\cl=false then (3,0,[]) else (x.1,x.2.1,nb (firstL (lb (bytesT x.2.2)) 4))
def highM (x:Cl) (cl:Bool):Cl×Bool:=if x.1=3 then (match aboveL (lb (bytesT x.2.2)) 4 with
 | none=>(nul,false)
 | some a=>if cl=true then ((3,0,nb a),true) else (nul,false)) else (x,true)
def Ceb (W:World) (p:Nat) (x y z:Value):Prop:=W.heap[p]?=some (.cells #[x,y,z] 52 (0,0))
theorem Ceb.facts {W:World} {p:Nat} {x y z:Value} (h:Ceb W p x y z):(W.cell? ⟨p,0,none⟩=some x/\W.cell? ⟨p,1,none⟩=some y/\W.cell? ⟨p,2,none⟩=some z)/\(W.frozen? ⟨p,0,none⟩=false/\W.frozen? ⟨p,1,none⟩=false/\W.frozen? ⟨p,2,none⟩=false)/\p<W.heap.size:=by
 unfold Ceb at h
 refine ⟨⟨by rw [cell_block h];rfl,by rw [cell_block h];rfl,by rw [cell_block h];rfl⟩,⟨by simp [World.frozen?,h],by simp [World.frozen?,h],by simp [World.frozen?,h]⟩,(Array.getElem?_eq_some_iff.1 h).1⟩
theorem Ceb.kept {W W':World} {p:Nat} {x y z:Value} (h:Ceb W p x y z) (hb:Below W.heap.size W W'):Ceb W' p x y z:=by
 have hp:=h.facts.2.2
 unfold Ceb at *
 rw [hb.block p hp]
 exact h
theorem Ceb.new (w:World) (x y z:Value):Ceb (w.alloc (.cells #[x,y,z] 52)) w.heap.size x y z:=heap_alloc_new w _
theorem lowBound_any {x:Cl} (hf:Fine x) (cl:Bool) (w:World):Calls Tryz.prog 103 #[valC x,.bool cl] w fun e w'=>e=.returned (.agg #[.int .u8 ((lowM x cl).1:Int),.int .i64 (lowM x cl).2.1,.string (bytesT (lowM x cl).2.2)])/\Below w.heap.size w w':=by
 have HF:=hidden hf
 have hr:=Ceb.new w (.int .u8 0) (.int .i64 0) (.string ⟨#[]⟩)
 have hb0:=below_one w (.cells #[.int .u8 0,.int .i64 0,.string ⟨#[]⟩] 52)
 have HD:Hid (lowM x cl=if x.1=3/\cl=false then (3,0,[]) else (x.1,x.2.1,nb (firstL (lb (bytesT x.2.2)) 4))):=hidden rfl
 generalize lowM x cl=R at *
 have HR:=hidden hr
 have HB0:=hidden hb0
 have HZ:Hid (w.heap.size<(w.alloc (.cells #[.int .u8 0,.int .i64 0,.string ⟨#[]⟩] 52)).heap.size):=hidden hr.facts.2.2
 clear hf hr hb0
 go_enter Tryz.func103,Tryz.ntmps103
 go_wp2_with fail
 refine (cell_any HF.out.val _).mono ?_
 rintro e w1 ⟨rfl,hb1⟩
 have HB1:=hidden (below_then HB0.out hb1)
 have HR1:=hidden (HR.out.kept hb1)
 have hz1:w.heap.size<w1.heap.size:=Nat.lt_of_lt_of_le HZ.out hb1.size
 clear hb1 HR
 have hcn:=Ceb.new w1 (.int .u8 (x.1:Int)) (.int .i64 x.2.1) (.string (bytesT x.2.2))
 have hb2:=below_one w1 (.cells #[.int .u8 (x.1:Int),.int .i64 x.2.1,.string (bytesT x.2.2)] 52)
 have HCN:=hidden hcn
 have HR2:=hidden (HR1.out.kept hb2)
 have HB2:=hidden (below_then HB1.out hb2)
 obtain ⟨⟨d0,d1,d2⟩,⟨f0,f1,f2⟩,_⟩:=hcn.facts
 obtain ⟨⟨r0,r1,r2⟩,⟨s0,s1,s2⟩,_⟩:=HR2.out.facts
 have hne:¬ w1.heap.size=w.heap.size:=by omega
 have hne2:¬ w.heap.size=w1.heap.size:=by omega
 clear hcn hb2 HR1
 generalize hW:w1.alloc (.cells #[.int .u8 (x.1:Int),.int .i64 x.2.1,.string (bytesT x.2.2)] 52)=W at *
 by_cases h3:x.1=3/\cl=false
 ·rw [if_pos h3] at HD
  obtain ⟨h3a,rfl⟩:=h3
  have h3':((x.1:Int)==3)=true:=by rw [h3a];rfl
  clear h3a
  go_wp2_with fail
  refine bodyPost_ret (v:=.agg #[.int .u8 3,.int .i64 0,.string ⟨#[]⟩]) (by simp [results,Tryz.results103,go_sem,r0,r1,r2]) rfl ⟨?_,set3 HB2.out (Nat.le_refl _) _ _ _⟩
  rw [HD.out]
  rfl
 ·rw [if_neg h3] at HD
  have HFI:=hidden (first_any (bytesT x.2.2) 4 (by have:=HF.out.short;omega))
  have hgo:((x.1:Int)==3)=false∨(((x.1:Int)==3)=true/\cl=true):=by
   by_cases hx:x.1=3
   ·right
    refine ⟨by rw [hx];rfl,?_⟩
    cases cl
    ·exact absurd ⟨hx,rfl⟩ h3
    ·rfl
   ·left
    exact beq_eq_false_iff_ne.2 (by omega)
  clear h3
  rcases hgo with h3' | ⟨h3',rfl⟩
  all_goals
   go_wp2_with fail
   refine (HFI.out _).mono ?_
   rintro e w3 ⟨⟨t,rfl,ht⟩,hb3⟩
   have HTB:=hidden (nb_of ht)
   obtain ⟨⟨d0',d1',d2'⟩,⟨f0',f1',f2'⟩,_⟩:=(HCN.out.kept hb3).facts
   obtain ⟨⟨r0',r1',r2'⟩,⟨s0',s1',s2'⟩,_⟩:=(HR2.out.kept hb3).facts
   have HB3:=hidden (below_then HB2.out hb3)
   have HZZ:Hid (w.heap.size<=w1.heap.size):=hidden (by omega)
   clear hb3 ht d0 d1 d2 f0 f1 f2 r0 r1 r2 s0 s1 s2 hW
   go_wp2_with fail
   refine bodyPost_ret (v:=.agg #[.int .u8 (x.1:Int),.int .i64 x.2.1,.string t]) (by simp [results,Tryz.results103,go_sem,r0',r1',r2',hne,hne2]) rfl ⟨?_,set3 (HB3.out.setCell (p:=⟨w1.heap.size,2,none⟩) HZZ.out _) (Nat.le_refl _) _ _ _⟩
   rw [HD.out,HTB.out]
theorem highBound_any {x:Cl} (hf:Fine x) (cl:Bool) (w:World):Calls Tryz.prog 106 #[valC x,.bool cl] w fun e w'=>e=.returned (.tuple #[.agg #[.int .u8 ((highM x cl).1.1:Int),.int .i64 (highM x cl).1.2.1,.string (bytesT (highM x cl).1.2.2)],.bool (highM x cl).2])/\Below w.heap.size w w':=by
 have HF:=hidden hf
 have hr:=Ceb.new w (.int .u8 0) (.int .i64 0) (.string ⟨#[]⟩)
 have hb0:=below_one w (.cells #[.int .u8 0,.int .i64 0,.string ⟨#[]⟩] 52)
 have HD:Hid (highM x cl=if x.1=3 then (match aboveL (lb (bytesT x.2.2)) 4 with
  | none=>(nul,false)
  | some a=>if cl=true then ((3,0,nb a),true) else (nul,false)) else (x,true)):=hidden rfl
 generalize highM x cl=R at *
 have HR:=hidden hr
 have HB0:=hidden hb0
 have HZ:Hid (w.heap.size<(w.alloc (.cells #[.int .u8 0,.int .i64 0,.string ⟨#[]⟩] 52)).heap.size):=hidden hr.facts.2.2
 clear hf hr hb0
 go_enter Tryz.func106,Tryz.ntmps106
 go_wp2_with fail
 refine (cell_any HF.out.val _).mono ?_
 rintro e w1 ⟨rfl,hb1⟩
 have HB1:=hidden (below_then HB0.out hb1)
 have HR1:=hidden (HR.out.kept hb1)
 have hz1:w.heap.size<w1.heap.size:=Nat.lt_of_lt_of_le HZ.out hb1.size
 clear hb1 HR
 have hcn:=Ceb.new w1 (.int .u8 (x.1:Int)) (.int .i64 x.2.1) (.string (bytesT x.2.2))
 have hb2:=below_one w1 (.cells #[.int .u8 (x.1:Int),.int .i64 x.2.1,.string (bytesT x.2.2)] 52)
 have HCN:=hidden hcn
 have HR2:=hidden (HR1.out.kept hb2)
 have HB2:=hidden (below_then HB1.out hb2)
 obtain ⟨⟨d0,d1,d2⟩,⟨f0,f1,f2⟩,_⟩:=hcn.facts
 obtain ⟨⟨r0,r1,r2⟩,⟨s0,s1,s2⟩,_⟩:=HR2.out.facts
 clear hcn hb2 HR1
 generalize hW:w1.alloc (.cells #[.int .u8 (x.1:Int),.int .i64 x.2.1,.string (bytesT x.2.2)] 52)=W at *
 by_cases h3:x.1=3
 ·rw [if_pos h3] at HD
  have h3':((x.1:Int) != 3)=false:=by rw [h3];rfl
  have HAB:=hidden (above_any (bytesT x.2.2) 4 (by have:=HF.out.short;omega))
  clear h3
  go_wp2_with fail
  refine (HAB.out _).mono ?_
  rintro e w3 ⟨⟨t,o,rfl,ho,ht⟩,hb3⟩
  obtain ⟨⟨r0',r1',r2'⟩,⟨s0',s1',s2'⟩,_⟩:=(HR2.out.kept hb3).facts
  have HB3:=hidden (below_then HB2.out hb3)
  clear hb3 d0 d1 d2 f0 f1 f2 r0 r1 r2 s0 s1 s2 hW
  cases ha:aboveL (lb (bytesT x.2.2)) 4 with
  | none =>
   rw [ha] at HD ho
   have ho':o=false:=ho
   subst ho'
   clear ha ho ht
   simp only at HD
   go_wp2_with fail
   refine bodyPost_ret (v:=.tuple #[.agg #[.int .u8 0,.int .i64 0,.string ⟨#[]⟩],.bool false]) (by simp [results,Tryz.results106,go_sem,r0',r1',r2']) rfl ⟨?_,set3 HB3.out (Nat.le_refl _) _ _ _⟩
   rw [HD.out]
   rfl
  | some av =>
   rw [ha] at HD ho ht
   have ho':o=true:=ho
   subst ho'
   have HTB:=hidden (nb_of (show lb t=av from ht))
   clear ha ho ht
   simp only at HD
   cases cl
   ·go_wp2_with fail
    refine bodyPost_ret (v:=.tuple #[.agg #[.int .u8 0,.int .i64 0,.string ⟨#[]⟩],.bool false]) (by simp [results,Tryz.results106,go_sem,r0',r1',r2']) rfl ⟨?_,set3 HB3.out (Nat.le_refl _) _ _ _⟩
    rw [HD.out]
    rfl
   ·go_wp2_with fail
    refine bodyPost_ret (v:=.tuple #[.agg #[.int .u8 3,.int .i64 0,.string t],.bool true]) (by simp [results,Tryz.results106,go_sem,r0',r1',r2']) rfl ⟨?_,set3 HB3.out (Nat.le_refl _) _ _ _⟩
    rw [HD.out,HTB.out]
    rfl
 ·rw [if_neg h3] at HD
  have h3':((x.1:Int) != 3)=true:=by simp;omega
  clear h3
  go_wp2_with fail
  refine bodyPost_ret (v:=.tuple #[.agg #[.int .u8 (x.1:Int),.int .i64 x.2.1,.string (bytesT x.2.2)],.bool true]) (by simp [results,Tryz.results106,go_sem,r0,r1,r2]) rfl ⟨?_,set3 HB2.out (Nat.le_refl _) _ _ _⟩
  rw [HD.out]
end Go.Proofs.YtpljdjmpamjkhaaGreatDoor
set_option linter.unusedVariables false
set_option linter.unusedSimpArgs false
set_option maxRecDepth 100000
set_option maxHeartbeats 8000000
namespace Go.Proofs.YtpljdjmpamjkhaaGreatDoor
open Go.RowKit Go.Lib
def statM (cs:List Cl):Stt:=match nonN cs with
 | []=>⟨cs.length,cs.length,false,false,nul,nul⟩
 | x::r=>⟨cs.length,(cs.length:Int)-((x::r).length:Nat),true,(highM (maxC x r) ((x::r).all cleanC)).2,lowM (minC x r) ((x::r).all cleanC),(highM (maxC x r) ((x::r).all cleanC)).1⟩
theorem Stb.kept {W W':World} {p:Nat} {st:Stt} (h:Stb W p st) (hb:Below W.heap.size W W'):Stb W' p st:=by
 have hp:=h.at.1
 unfold Stb at *
 rw [hb.block p hp]
 exact h
theorem Stb.frozen {W:World} {p:Nat} {st:Stt} (h:Stb W p st) (i:Nat):W.frozen? ⟨p,i,none⟩=false:=by
 unfold Stb at h
 simp [World.frozen?,h]
theorem Stb.lo {W:World} {p:Nat} {st:Stt} (h:Stb W p st) (c:Cl):Stb (((W.setCell ⟨p,4,none⟩ (.int .u8 (c.1:Int))).setCell ⟨p,5,none⟩ (.int .i64 c.2.1)).setCell ⟨p,6,none⟩ (.string (bytesT c.2.2))) p { st with lo:=c }:=by
 unfold Stb at *
 rw [heap_set (heap_set (heap_set h 4 _) 5 _) 6 _]
 rfl
theorem Stb.other {W:World} {p q:Nat} {st:Stt} (h:Stb W q st) (hn:q≠p) (i:Nat) (v:Value):Stb (W.setCell ⟨p,i,none⟩ v) q st:=by
 unfold Stb at *
 rw [heap_setCell_other _ ⟨p,i,none⟩ q _ hn]
 exact h
theorem setB' {B:Nat} {w W:World} (h:Below B w W) {p:Nat} (hp:B<=p) (i:Nat) (x:Value):Below B w (W.setCell ⟨p,i,none⟩ x):=h.setCell (p:=⟨p,i,none⟩) hp _
theorem set10 {B:Nat} {w W:World} (h:Below B w W) {p:Nat} (hp:B<=p) (x0 x1 x2 x3 x4 x5 x6 x7 x8 x9:Value):Below B w ((((((((((W.setCell ⟨p,0,none⟩ x0).setCell ⟨p,1,none⟩ x1).setCell ⟨p,2,none⟩ x2).setCell ⟨p,3,none⟩ x3).setCell ⟨p,4,none⟩ x4).setCell ⟨p,5,none⟩ x5).setCell ⟨p,6,none⟩ x6).setCell ⟨p,7,none⟩ x7).setCell ⟨p,8,none⟩ x8).setCell ⟨p,9,none⟩ x9) :=
 setB' (setB' (setB' (setB' (setB' (setB' (setB' (setB' (setB' (setB' h hp _ _) hp _ _) hp _ _) hp _ _) hp _ _) hp _ _) hp _ _) hp _ _) hp _ _) hp _ _
def stZ:Stt:=⟨0,0,false,false,nul,nul⟩
theorem stats_any {w:World} {v:Value} {cs:List Cl} (hs:Sv w v (vvals cs)) (hf:∀ c∈cs,Fine c) (hl:cs.length<=1000):Calls Tryz.prog 59 #[v] w fun e w'=>e=.returned (aggS (statM cs))/\Below w.heap.size w w':=by
 have HF:=hidden hf
 have hz0:=Stb.new w stZ
 have hb0:=below_one w (.cells #[.int .i64 0,.int .i64 0,.bool false,.bool false,.int .u8 0,.int .i64 0,.string ⟨#[]⟩,.int .u8 0,.int .i64 0,.string ⟨#[]⟩] 54)
 have hz0':Stb (w.alloc (.cells #[.int .i64 0,.int .i64 0,.bool false,.bool false,.int .u8 0,.int .i64 0,.string ⟨#[]⟩,.int .u8 0,.int .i64 0,.string ⟨#[]⟩] 54)) w.heap.size stZ:=hz0
 have HSA:=hidden (hs.kept hb0)
 obtain ⟨a,cap,rfl,hcap,hcm⟩:=hs.form1
 rw [vvals_length] at *
 have HZ0:=hidden hz0'
 have HB0:=hidden hb0
 have sA:(w.alloc (.cells #[.int .i64 0,.int .i64 0,.bool false,.bool false,.int .u8 0,.int .i64 0,.string ⟨#[]⟩,.int .u8 0,.int .i64 0,.string ⟨#[]⟩] 54)).heap.size=w.heap.size+1:=World.size_alloc _ _
 have HSZ:=hidden sA
 clear hs hf hz0 hb0 hz0' sA
 generalize hA:w.alloc (.cells #[.int .i64 0,.int .i64 0,.bool false,.bool false,.int .u8 0,.int .i64 0,.string ⟨#[]⟩,.int .u8 0,.int .i64 0,.string ⟨#[]⟩] 54)=A at *
 have HL:=hidden hl
 clear hl
 go_enter Tryz.func59,Tryz.ntmps59
 go_wp2_with fail
 try rw [hA]
 refine (cloneV_any HSA.out HL.out).mono ?_
 rintro e w1 ⟨⟨v1,rfl,ho1⟩,hb1⟩
 have HO1:=hidden ho1
 have HB1:=hidden hb1
 clear ho1 hb1 hA
 go_wp2_with fail
 refine (deleteNull_any HO1.out HF.out HB1.out.size).mono ?_
 rintro e w2 ⟨⟨v2,rfl,hs2⟩,hb2⟩
 have HB2:=hidden (HB1.out.trans hb2)
 have HS2:=hidden hs2
 have HFN:Hid (∀ c∈nonN cs,Fine c):=hidden (fun c hc=>HF.out c (by unfold nonN at hc;exact (List.mem_filter.1 hc).1))
 obtain ⟨a2,cap2,rfl,hcap2,hcm2⟩:=hs2.form1
 rw [vvals_length] at *
 have HST:Hid (statM cs=match nonN cs with
  | []=>⟨cs.length,cs.length,false,false,nul,nul⟩
  | x::r=>⟨cs.length,(cs.length:Int)-((x::r).length:Nat),true,(highM (maxC x r) ((x::r).all cleanC)).2,lowM (minC x r) ((x::r).all cleanC),(highM (maxC x r) ((x::r).all cleanC)).1⟩):=hidden rfl
 have HNL:Hid ((nonN cs).length<=cs.length):=hidden (List.length_filter_le _ _)
 clear hb2 hs2 HO1 HB1 HSA
 generalize nonN cs=ns at *
 have HZ2:=hidden (HZ0.out.kept HB2.out)
 have HBW:=hidden (below_then HB0.out HB2.out)
 have HW2:Hid (w.heap.size<w2.heap.size):=hidden HZ2.out.at.1
 clear HZ0 HB0 HB2 hcm hcm2
 cases ns with
 | nil =>
  simp only at HST
  simp only [List.length_nil] at *
  have hSb:=Stb.new w2 ⟨cs.length,cs.length,false,false,nul,nul⟩
  have hSb':Stb (w2.alloc (.cells #[.int .i64 (cs.length:Int),.int .i64 (cs.length:Int),.bool false,.bool false,.int .u8 0,.int .i64 0,.string ⟨#[]⟩,.int .u8 0,.int .i64 0,.string ⟨#[]⟩] 54)) w2.heap.size ⟨cs.length,cs.length,false,false,nul,nul⟩:=hSb
  clear hSb
  have HSb:=hidden hSb'
  have hbG:=below_one w2 (.cells #[.int .i64 (cs.length:Int),.int .i64 (cs.length:Int),.bool false,.bool false,.int .u8 0,.int .i64 0,.string ⟨#[]⟩,.int .u8 0,.int .i64 0,.string ⟨#[]⟩] 54)
  have hZG:=HZ2.out.kept hbG
  have hwr:wrap64 (cs.length:Int)=(cs.length:Int):=by have:=HL.out;unfold wrap64;omega
  obtain ⟨_,⟨r0,r1,r2,r3⟩,⟨r4,r5,r6⟩,r7,r8,r9⟩:=HZ2.out.at
  obtain ⟨_,⟨q0,q1,q2,q3⟩,⟨q4,q5,q6⟩,q7,q8,q9⟩:=hZG.at
  simp only [Nat.zero_add] at r0 r1 r2 r3 r4 r5 r6 r7 r8 r9 q0 q1 q2 q3 q4 q5 q6 q7 q8 q9
  have fz:=HZ2.out.frozen
  have fg:=hZG.frozen
  have hw2:=HW2.out
  have hal:∀ (X:World) (o:Obj) (i:Nat),w.heap.size<X.heap.size->(X.alloc o).cell? ⟨w.heap.size,i,none⟩=X.cell? ⟨w.heap.size,i,none⟩:=fun X o i h=>(below_one X o).cell h
  have hset:=set10 HBW.out (Nat.le_refl _) (.int .i64 (cs.length:Int)) (.int .i64 (cs.length:Int)) (.bool false) (.bool false) (.int .u8 0) (.int .i64 0) (.string ⟨#[]⟩) (.int .u8 0) (.int .i64 0) (.string ⟨#[]⟩)
  have HSET:=hidden hset
  clear hSb' hset hbG hZG
  go_wp2_with fail
  refine bodyPost_ret (v:=.agg #[.int .i64 (cs.length:Int),.int .i64 (cs.length:Int),.bool false,.bool false,.int .u8 0,.int .i64 0,.string ⟨#[]⟩,.int .u8 0,.int .i64 0,.string ⟨#[]⟩]) (by simp [results,Tryz.results59,go_sem,hal,hw2,r0,r1,r2,r3,r4,r5,r6,r7,r8,r9]) rfl ⟨?_,?_⟩
  ·rw [HST.out]
   rfl
  ·exact HSET.out.alloc HSET.out.size _
 | cons x r =>
  simp only at HST
  have hmp:(0:Int)<((x::r).length:Int):=by simp only [List.length_cons];omega
  have hgb:Stb (w2.alloc (.cells #[.int .i64 (cs.length:Int),.int .i64 ((cs.length:Int)-((x::r).length:Int)),.bool true,.bool false,.int .u8 0,.int .i64 0,.string ⟨#[]⟩,.int .u8 0,.int .i64 0,.string ⟨#[]⟩] 54)) w2.heap.size ⟨cs.length,(cs.length:Int)-((x::r).length:Int),true,false,nul,nul⟩:=Stb.new w2 ⟨cs.length,(cs.length:Int)-((x::r).length:Int),true,false,nul,nul⟩
  have hbG:=below_one w2 (.cells #[.int .i64 (cs.length:Int),.int .i64 ((cs.length:Int)-((x::r).length:Int)),.bool true,.bool false,.int .u8 0,.int .i64 0,.string ⟨#[]⟩,.int .u8 0,.int .i64 0,.string ⟨#[]⟩] 54)
  have HGB:=hidden hgb
  have HBG:=hidden hbG
  have hwr:wrap64 ((cs.length:Int)-((x::r).length:Int))=(cs.length:Int)-((x::r).length:Int):=by have:=HL.out;have:=HNL.out;unfold wrap64;omega
  have HSG:Hid (∀ U,Below w2.heap.size w2 U->Sv U (.slice a2 (x::r).length cap2) (vvals (x::r))/\Stb U w.heap.size stZ):=hidden (fun U h=>⟨HS2.out.kept h,HZ2.out.kept h⟩)
  have HF0:Hid (Fine x):=hidden (HFN.out x (by simp))
  have HFR:Hid (∀ c∈r,Fine c):=hidden (fun c hc=>HFN.out c (by simp [hc]))
  have HFMI:Hid (Fine (minC x r)):=hidden (minC_mem HF0.out HFR.out)
  have HFMA:Hid (Fine (maxC x r)):=hidden (maxC_mem HF0.out HFR.out)
  have HUN:=hidden (fun U (h:Below w2.heap.size w2 U)=>hasUnclean_any (HSG.out U h).1 HFN.out)
  have HMI:Hid (∀ U,Below w2.heap.size w2 U->Calls Tryz.prog 104 #[.slice a2 (x::r).length cap2,.func (.func 105) #[] #[]] U fun e w'=>e=.returned (valC (minC x r))/\Below U.heap.size U w'):=hidden (fun U h=>minF_any (HSG.out U h).1 HFN.out (by simp))
  have HMA:Hid (∀ U,Below w2.heap.size w2 U->Calls Tryz.prog 107 #[.slice a2 (x::r).length cap2,.func (.func 105) #[] #[]] U fun e w'=>e=.returned (valC (maxC x r))/\Below U.heap.size U w'):=hidden (fun U h=>maxF_any (HSG.out U h).1 HFN.out (by simp))
  obtain ⟨cl,hcl⟩:∃ cl,cl=(x::r).all cleanC:=⟨_,rfl⟩
  rw [← hcl] at HST HUN
  clear hcl hgb hbG
  generalize minC x r=mi at *
  generalize maxC x r=ma at *
  have HLO:=hidden (lowBound_any HFMI.out cl)
  have HHI:=hidden (highBound_any HFMA.out cl)
  generalize lowM mi cl=lo at *
  generalize highM ma cl=hi at *
  obtain ⟨hi,hib⟩:=hi
  simp only at HST HHI
  generalize hmm:(x::r).length=m at *
  have hmn:0<m:=by omega
  have hmd:decide (0<m)=true:=decide_eq_true hmn
  clear hmm
  obtain ⟨_,⟨g0,g1,g2,g3⟩,⟨g4,g5,g6⟩,g7,g8,g9⟩:=HGB.out.at
  simp only [Nat.zero_add] at g0 g1 g2 g3 g4 g5 g6 g7 g8 g9
  go_wp2_with fail
  refine (HUN.out _ HBG.out).mono ?_
  rintro e w3 ⟨rfl,hb3⟩
  have HB3:=hidden (below_then HBG.out hb3)
  have HG3:=hidden (HGB.out.kept hb3)
  clear hb3 g0 g1 g2 g3 g4 g5 g6 g7 g8 g9
  go_wp2_with fail
  refine (HMI.out _ HB3.out).mono ?_
  rintro e w4 ⟨rfl,hb4⟩
  have HB4:=hidden (below_then HB3.out hb4)
  have HG4:=hidden (HG3.out.kept hb4)
  clear hb4
  go_wp2_with fail
  refine (HLO.out _).mono ?_
  rintro e w5 ⟨rfl,hb5⟩
  have HB5:=hidden (below_then HB4.out hb5)
  have HG5:=hidden (HG4.out.kept hb5)
  clear hb5
  obtain ⟨_,⟨g0,g1,g2,g3⟩,⟨g4,g5,g6⟩,g7,g8,g9⟩:=HG5.out.at
  simp only [Nat.zero_add] at g0 g1 g2 g3 g4 g5 g6 g7 g8 g9
  have fg:=HG5.out.frozen
  go_wp2_with fail
  have hb6:Below w2.heap.size w2 (((w5.setCell ⟨w2.heap.size,4,none⟩ (.int .u8 (lo.1:Int))).setCell ⟨w2.heap.size,5,none⟩ (.int .i64 lo.2.1)).setCell ⟨w2.heap.size,6,none⟩ (.string (bytesT lo.2.2))):=setB' (setB' (setB' HB5.out (Nat.le_refl _) _ _) (Nat.le_refl _) _ _) (Nat.le_refl _) _ _
  have HB6:=hidden hb6
  have HG6:=hidden (HG5.out.lo lo)
  clear hb6 fg g0 g1 g2 g3 g4 g5 g6 g7 g8 g9
  refine (HMA.out _ HB6.out).mono ?_
  rintro e w7 ⟨rfl,hb7⟩
  have HB7:=hidden (below_then HB6.out hb7)
  have HG7:=hidden (HG6.out.kept hb7)
  clear hb7
  go_wp2_with fail
  refine (HHI.out _).mono ?_
  rintro e w8 ⟨rfl,hb8⟩
  have HB8:=hidden (below_then HB7.out hb8)
  have HG8:=hidden (HG7.out.kept hb8)
  clear hb8
  obtain ⟨_,⟨g0,g1,g2,g3⟩,⟨g4,g5,g6⟩,g7,g8,g9⟩:=HG8.out.at
  obtain ⟨_,⟨r0,r1,r2,r3⟩,⟨r4,r5,r6⟩,r7,r8,r9⟩:=(HSG.out _ HB8.out).2.at
  simp only [Nat.zero_add] at g0 g1 g2 g3 g4 g5 g6 g7 g8 g9 r0 r1 r2 r3 r4 r5 r6 r7 r8 r9
  have fg:=HG8.out.frozen
  have fz:=(HSG.out _ HB8.out).2.frozen
  have hne:¬ w2.heap.size=w.heap.size:=by have:=HW2.out;omega
  have hne2:¬ w.heap.size=w2.heap.size:=by have:=HW2.out;omega
  have HBF:=hidden (below_then HBW.out HB8.out)
  have HLE:Hid (w.heap.size<=w2.heap.size):=hidden (by have:=HW2.out;omega)
  go_wp2_with fail
  refine bodyPost_ret (v:=.agg #[.int .i64 (cs.length:Int),.int .i64 ((cs.length:Int)-(m:Int)),.bool true,.bool hib,.int .u8 (lo.1:Int),.int .i64 lo.2.1,.string (bytesT lo.2.2),.int .u8 (hi.1:Int),.int .i64 hi.2.1,.string (bytesT hi.2.2)]) (by simp [results,Tryz.results59,go_sem,hne,hne2,r0,r1,r2,r3,r4,r5,r6,r7,r8,r9]) rfl ⟨?_,?_⟩
  ·rw [HST.out]
   rfl
  ·exact set10 (setB' (setB' (setB' (setB' HBF.out HLE.out _ _) HLE.out _ _) HLE.out _ _) HLE.out _ _) (Nat.le_refl _) _ _ _ _ _ _ _ _ _ _
end Go.Proofs.YtpljdjmpamjkhaaGreatDoor
set_option linter.unusedVariables false
set_option linter.unusedSimpArgs false
namespace Go.Proofs.YtpljdjmpamjkhaaGreatDoor
open Go.RowKit Go.Lib
theorem nb_length (l:List UInt8):(nb l).length=l.length:=by simp [nb]
theorem offs_le4 {rs:List Nat}:∀ i,offs (rs.map eu) i<=4*i
 | 0=>by simp
 | i+1=>by
  have:=offs_le4 (rs:=rs) i
  by_cases h:i<rs.length
  ·have hd:(rs.map eu).drop i=eu rs[i]::(rs.map eu).drop (i+1):=by
    rw [List.drop_eq_getElem_cons (by simpa using h)]
    simp
   rw [offs_succ hd]
   have:=encL_pos rs[i]
   have h2:(eu rs[i]).2=(encL rs[i]).length:=rfl
   omega
  ·have h1:=offs_all (rs.map eu) i (by simp;omega)
   have h2:=offs_all (rs.map eu) (i+1) (by simp;omega)
   omega
theorem above_four {l a:List UInt8} (h:aboveL l 4=some a) (hl:l.length<=64):a.length<=64:=by
 have h0:=h
 rw [above_eq] at h
 unfold refAboveL at h
 split at h
 ·split at h
  ·obtain rfl:=Option.some.inj h;omega
  ·split at h
   ·cases h
   ·next hc _ _ =>
    have hv:=clean_V hc
    unfold upL at h
    cases hg:lastG (V l) (4:Int).toNat with
    | none=>rw [hg] at h;cases h
    | some i =>
     rw [hg] at h
     have hi:=(lastG_lt hg).1
     simp only [Option.map_some,Option.some.injEq] at h
     subst h
     have:=encL_pos (nx ((V l).getD i (0,0)).1)
     have:=offs_le4 (rs:=runes l) i
     rw [← hv] at this
     have h4:(4:Int).toNat=4:=rfl
     simp only [List.length_append,List.length_take]
     omega
 ·cases h
theorem lowM_fine {x:Cl} (hf:Fine x) (cl:Bool):Fine (lowM x cl):=by
 unfold lowM
 by_cases h:x.1=3/\cl=false
 ·rw [if_pos h]
  exact Or.inr (Or.inr (Or.inr ⟨[],rfl,by simp,fun x hx=>by simp at hx⟩))
 ·rw [if_neg h]
  have he:nb (firstL (lb (bytesT ([]:List Nat))) 4)=[]:=by
   have:lb (bytesT ([]:List Nat))=[]:=rfl
   rw [this]
   simp [firstL,nb]
  rcases hf with rfl | ⟨n,rfl,hn⟩ | ⟨n,rfl,hn⟩ | ⟨s,rfl,hl,hs⟩
  ·refine Or.inl ?_
   show ((0:Nat),(0:Int),nb (firstL (lb (bytesT ([]:List Nat))) 4))=nul
   rw [he]
   rfl
  ·refine Or.inr (Or.inl ⟨n,?_,hn⟩)
   show ((1:Nat),n,nb (firstL (lb (bytesT ([]:List Nat))) 4))=_
   rw [he]
  ·refine Or.inr (Or.inr (Or.inl ⟨n,?_,hn⟩))
   show ((2:Nat),(n:Int),nb (firstL (lb (bytesT ([]:List Nat))) 4))=_
   rw [he]
  ·refine Or.inr (Or.inr (Or.inr ⟨_,rfl,?_,nb_bs _⟩))
   rw [nb_length]
   show (firstL (lb (bytesT s)) 4).length<=64
   have:=firstL_len (lb (bytesT s)) 4
   have h2:(lb (bytesT s)).length=s.length:=by rw [lb_size,bytesT_size]
   omega
theorem highM_fine {x:Cl} (hf:Fine x) (cl:Bool):Fine (highM x cl).1:=by
 unfold highM
 by_cases h:x.1=3
 ·rw [if_pos h]
  cases ha:aboveL (lb (bytesT x.2.2)) 4 with
  | none=>exact Or.inl rfl
  | some a =>
   simp only
   cases cl
   ·exact Or.inl rfl
   ·refine Or.inr (Or.inr (Or.inr ⟨_,rfl,?_,nb_bs _⟩))
    rw [nb_length]
    refine above_four ha ?_
    rw [lb_size]
    exact hf.short
 ·rw [if_neg h]
  exact hf
theorem statM_fine {cs:List Cl} (hf:∀ c∈cs,Fine c):Fine (statM cs).lo/\Fine (statM cs).hi:=by
 have hfn:∀ c∈nonN cs,Fine c:=fun c hc=>hf c (by unfold nonN at hc;exact (List.mem_filter.1 hc).1)
 unfold statM
 cases hn:nonN cs with
 | nil=>exact ⟨Or.inl rfl,Or.inl rfl⟩
 | cons y r =>
  rw [hn] at hfn
  have hy:=hfn y (by simp)
  have hr:∀ c∈r,Fine c:=fun c hc=>hfn c (by simp [hc])
  exact ⟨lowM_fine (minC_mem hy hr) _,highM_fine (maxC_mem hy hr) _⟩
end Go.Proofs.YtpljdjmpamjkhaaGreatDoor
