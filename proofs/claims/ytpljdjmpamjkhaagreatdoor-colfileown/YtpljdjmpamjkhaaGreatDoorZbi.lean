/- The reader of files: its state; within. The reader of files: stats. What statistics leave of a node that has a field. What the laws' last steps share: a schema, a list of cells opened out of a reading. -/
import Derived.Test.YtpljdjmpamjkhaaGreatDoorZbh
import Derived.Test.YtpljdjmpamjkhaaGreatDoorZat
import Derived.Test.YtpljdjmpamjkhaaGreatDoorZbe
import Derived.Test.YtpljdjmpamjkhaaGreatDoorZas
import Derived.Test.YtpljdjmpamjkhaaGreatDoorZao
import Derived.Test.YtpljdjmpamjkhaaGreatDoorProg
import Derived.ProofKit
import Derived.OpenShut
import Derived.ShutString
import Derived.ChangeOld
import Derived.ChangeMaps5
import Derived.Below
import Derived.Deep.Slices
import Derived.Deep.Strs
import Derived.Lib.SmallJoins
set_option linter.unusedVariables false
set_option linter.unusedSimpArgs false
set_option maxRecDepth 100000
set_option maxHeartbeats 4000000
namespace Go.Proofs.YtpljdjmpamjkhaaGreatDoor
open Go.RowKit Go.Lib
def R3 (W:World) (p:Nat) (c f:List Nat) (fl:Bool):Prop :=
 ∃ a cap a' cap',W.heap[p]?=some (.cells #[.slice a c.length cap,.slice a' f.length cap',.bool fl] 157 (0,0)) /\
  (Sv W (.slice a c.length cap) (vals .u8 c)/\(∀ k,(Value.slice a c.length cap).ownBlock=some k->k<p)/\Bs c) /\
  (Sv W (.slice a' f.length cap') (vals .u8 f)/\(∀ k,(Value.slice a' f.length cap').ownBlock=some k->k<p)/\Bs f)
theorem R3.lt {W:World} {p:Nat} {c f:List Nat} {fl:Bool} (h:R3 W p c f fl):p<W.heap.size:=by obtain ⟨_,_,_,_,h,_⟩:=h;exact (Array.getElem?_eq_some_iff.1 h).1
theorem R3.bs {W:World} {p:Nat} {c f:List Nat} {fl:Bool} (h:R3 W p c f fl):Bs c/\Bs f:=by obtain ⟨_,_,_,_,_,h1,h2⟩:=h;exact ⟨h1.2.2,h2.2.2⟩
theorem R3.kept {W W':World} {p B:Nat} {c f:List Nat} {fl:Bool} (h:R3 W p c f fl) (hb:Below B W W') (hp:p<B):R3 W' p c f fl:=by
 obtain ⟨a,cap,a',cap',h1,⟨h2,h3,h4⟩,h5,h6,h7⟩:=h
 exact ⟨a,cap,a',cap',(hb.block p hp).trans h1,⟨h2.keptW (fun _ k hk=>Nat.lt_trans (h3 k hk) hp) hb,h3,h4⟩,h5.keptW (fun _ k hk=>Nat.lt_trans (h6 k hk) hp) hb,h6,h7⟩
theorem OwnV.of_le {W:World} {B B':Nat} {v:Value} {l:List Cl} (h:OwnV W B v l) (hB:B'<=B):OwnV W B' v l:=by
 refine ⟨h.1,?_⟩
 rcases h.2 with hn | ⟨g,cap,cur,hv,hb,r⟩
 ·exact .inl hn
 ·exact .inr ⟨g,cap,cur,hv,Nat.le_trans hB hb,r⟩
theorem setp_below {W:World} {p i:Nat} (x:Value):Below p W (W.setCell ⟨p,i,none⟩ x):=(Below.refl p W).setCell (Nat.le_refl _) x
theorem R3.cells {W:World} {p:Nat} {c f:List Nat} {fl:Bool} (h:R3 W p c f fl) :
  ∃ a cap a' cap',(W.cell? ⟨p,0,none⟩=some (.slice a c.length cap)/\W.cell? ⟨p,1,none⟩=some (.slice a' f.length cap')/\W.cell? ⟨p,2,none⟩=some (.bool fl)) /\
   (W.frozen? ⟨p,0,none⟩=false/\W.frozen? ⟨p,1,none⟩=false/\W.frozen? ⟨p,2,none⟩=false) /\
   (c.length<=cap/\cap<=9223372036854775807/\f.length<=cap'/\cap'<=9223372036854775807) /\
   (Sv W (.slice a c.length cap) (vals .u8 c)/\(∀ k,(Value.slice a c.length cap).ownBlock=some k->k<p)) /\
   (Sv W (.slice a' f.length cap') (vals .u8 f)/\(∀ k,(Value.slice a' f.length cap').ownBlock=some k->k<p)) /\
   (∀ fl',R3 (W.setCell ⟨p,2,none⟩ (.bool fl')) p c f fl') /\
   (∀ k,k<=c.length->∃ A,(if cap=k then a else a.map fun x=>x.add k)=A/\R3 (W.setCell ⟨p,0,none⟩ (.slice A (c.length-k) (cap-k))) p (c.drop k) f fl) /\
   (∀ k,k<=f.length->∃ A,(if cap'=k then a' else a'.map fun x=>x.add k)=A/\R3 (W.setCell ⟨p,1,none⟩ (.slice A (f.length-k) (cap'-k))) p c (f.drop k) fl) /\
   (∀ v g,Sv W v (vals .u8 g)->Bs g->(∀ k,v.ownBlock=some k->k<p)->R3 (W.setCell ⟨p,1,none⟩ v) p c g fl):=by
 obtain ⟨a,cap,a',cap',h1,⟨h2,h3,h4⟩,h5,h6,h7⟩:=h
 have hs1:∀ i (x:Value),Sv (W.setCell ⟨p,i,none⟩ x) (.slice a c.length cap) (vals .u8 c):=fun i x=>h2.keptW (fun _=>h3) (setp_below x)
 have hs2:∀ i (x:Value),Sv (W.setCell ⟨p,i,none⟩ x) (.slice a' f.length cap') (vals .u8 f):=fun i x=>h5.keptW (fun _=>h6) (setp_below x)
 obtain ⟨x1,c1,e1,hc1,hc2⟩:=h2.form1
 obtain ⟨x2,c2,e2,hc3,hc4⟩:=h5.form1
 rw [vals_length] at e1 hc1 e2 hc3
 simp only [Value.slice.injEq] at e1 e2
 obtain ⟨rfl,_,rfl⟩:=e1
 obtain ⟨rfl,_,rfl⟩:=e2
 refine ⟨a,cap,a',cap',⟨by rw [cell_block h1];rfl,by rw [cell_block h1];rfl,by rw [cell_block h1];rfl⟩,⟨by simp [World.frozen?,h1],by simp [World.frozen?,h1],by simp [World.frozen?,h1]⟩,
  ⟨hc1,by unfold maxLen at hc2;omega,hc3,by unfold maxLen at hc4;omega⟩,⟨h2,h3⟩,⟨h5,h6⟩,fun fl'=>?_,fun k hk=>?_,fun k hk=>?_,fun v g hv hg hvb=>?_⟩
 ·exact ⟨a,cap,a',cap',by rw [heap_setC h1];rfl,⟨hs1 _ _,h3,h4⟩,hs2 _ _,h6,h7⟩
 ·refine ⟨_,rfl,?_⟩
  have hd:=h2.dropG (k:=k) (by rw [vals_length];exact hk)
  rw [vals_length,vals_dropA] at hd
  have hbl:=dropG_block (m:=c.length-k) (k:=k) (c:=cap) h3
  refine ⟨_,cap-k,a',cap',by rw [heap_setC h1,List.length_drop];rfl,⟨?_,?_,h4.drop k⟩,hs2 _ _,h6,h7⟩
  ·rw [List.length_drop]
   exact hd.keptW (fun _=>hbl) (setp_below _)
  ·rw [List.length_drop]
   exact hbl
 ·refine ⟨_,rfl,?_⟩
  have hd:=h5.dropG (k:=k) (by rw [vals_length];exact hk)
  rw [vals_length,vals_dropA] at hd
  have hbl:=dropG_block (m:=f.length-k) (k:=k) (c:=cap') h6
  refine ⟨a,cap,_,cap'-k,by rw [heap_setC h1,List.length_drop];rfl,⟨hs1 _ _,h3,h4⟩,?_,?_,h7.drop k⟩
  ·rw [List.length_drop]
   exact hd.keptW (fun _=>hbl) (setp_below _)
  ·rw [List.length_drop]
   exact hbl
 ·obtain ⟨av,cv,rfl,_,_⟩:=hv.form1
  rw [vals_length] at *
  exact ⟨a,cap,av,cv,by rw [heap_setC h1];rfl,⟨hs1 _ _,h3,h4⟩,hv.keptW (fun _=>hvb) (setp_below _),hvb,hg⟩
theorem R3.cells2 {W U:World} {p:Nat} {c f:List Nat} {fl:Bool} (h:R3 W p c f fl) (hU:Below W.heap.size W U) {a:Option Addr} {n cap:Nat} (hc:W.cell? ⟨p,1,none⟩=some (.slice a n cap)) :
  Sv U (.slice a f.length cap) (vals .u8 f)/\∀ i,(Value.slice a f.length cap).ownBlock=some i->i<p:=by
 obtain ⟨_,_,a',cap',⟨_,c1,_⟩,_,_,_,⟨s1,s2⟩,_⟩:=(h.kept hU h.lt).cells
 rw [hU.cell h.lt,hc] at c1
 simp only [Option.some.injEq,Value.slice.injEq] at c1
 obtain ⟨rfl,rfl,rfl⟩:=c1
 exact ⟨s1,s2⟩
theorem within_any {w:World} {p:Nat} {c f:List Nat} {fl:Bool} (h:R3 w p c f fl) (lo hi:Nat) (h1:lo<=9223372036854775807) (h2:hi<=9223372036854775807) :
  Calls Tryz.prog 141 #[.pointer (some ⟨p,0,none⟩),.int .i64 (lo:Int),.int .i64 (hi:Int)] w fun r w'=>r=.returned (.int .i64 (valW lo hi f:Int))/\R3 w' p c (rstW f) (fl || badW lo hi f)/\Fr p w.heap.size w w':=by
 obtain ⟨a,cap,a',cap',⟨c0,c1,c2⟩,⟨f0,f1,f2⟩,⟨l1,l2,l3,l4⟩,_,⟨s1,s2⟩,_,_,k1,_⟩:=h.cells
 obtain ⟨g1,g2,g3,g4⟩:=gt_form f
 have HG:=hidden (get_sv h.bs.2 s1)
 obtain ⟨A,hA,hR⟩:=k1 (gt f).2.1 g2
 have HF:=hidden ((Fr.refl p w.heap.size w).set 1 (.slice A (f.length-(gt f).2.1) (cap'-(gt f).2.1)))
 have HR:=hidden hR
 have HB:Hid (badW lo hi f=!decide ((gt f).2.2=0/\lo<=(gt f).1/\(gt f).1<=hi)):=hidden rfl
 have HV:Hid (valW lo hi f=if badW lo hi f=true then 0 else (gt f).1):=hidden rfl
 have HT:Hid (rstW f=f.drop (gt f).2.1):=hidden rfl
 rw [HT.out]
 clear h k1 s1 s2 hR HT
 generalize badW lo hi f=bd at *
 generalize valW lo hi f=vw at *
 generalize gt f=x at *
 obtain ⟨n,u,er⟩:=x
 simp only at *
 unfold tell at HG
 have hu:(u:Int)<=(f.length:Int):=by omega
 have hw1:IntKind.u64.wrap (lo:Int)=(lo:Int):=by rw [IntKind.wrap_u64];omega
 have hw2:IntKind.u64.wrap (hi:Int)=(hi:Int):=by rw [IntKind.wrap_u64];omega
 obtain ⟨A0,Cap,B0,Cap',⟨d0,d1,d2⟩,⟨e0,e1,e2⟩,_,_,_,k2,_,_,_⟩:=HR.out.cells
 have HK2:=hidden (k2 true)
 have HF2:=hidden (HF.out.set 2 (.bool true))
 clear k2
 by_cases her:er=0
 ·subst her
  have hne:(((0:Nat):Int) != 0)=false:=by simp
  by_cases hlo:n<lo
  ·have hb:bd=true:=by rw [HB.out];simp;omega
   subst hb
   have hv:vw=0:=by rw [HV.out];rfl
   subst hv
   rw [Bool.or_true]
   have hlt:(n:Int)<(lo:Int):=by omega
   clear HB HV
   go_enter Tryz.func141,Tryz.ntmps141
   go_wp2_with fail
   refine HG.out.mono ?_
   rintro e w1 ⟨rfl,rfl⟩
   go_wp2_with fail
   go_ret
   exact ⟨rfl,HK2.out,HF2.out⟩
  ·have hnlt:¬ (n:Int)<(lo:Int):=by omega
   by_cases hhi:hi<n
   ·have hb:bd=true:=by rw [HB.out];simp;omega
    subst hb
    have hv:vw=0:=by rw [HV.out];rfl
    subst hv
    rw [Bool.or_true]
    have hgt:(n:Int) > (hi:Int):=by omega
    clear HB HV
    go_enter Tryz.func141,Tryz.ntmps141
    go_wp2_with fail
    refine HG.out.mono ?_
    rintro e w1 ⟨rfl,rfl⟩
    go_wp2_with fail
    go_ret
    exact ⟨rfl,HK2.out,HF2.out⟩
   ·have hb:bd=false:=by rw [HB.out];simp;omega
    subst hb
    have hv:vw=n:=by rw [HV.out];rfl
    subst hv
    rw [Bool.or_false]
    have hgt:¬ (vw:Int) > (hi:Int):=by omega
    have hwn:IntKind.i64.wrap (vw:Int)=(vw:Int):=by rw [IntKind.wrap_i64];omega
    clear HB HV
    go_enter Tryz.func141,Tryz.ntmps141
    go_wp2_with fail
    refine HG.out.mono ?_
    rintro e w1 ⟨rfl,rfl⟩
    go_wp2_with fail
    go_ret
    exact ⟨rfl,HR.out,HF.out⟩
 ·have hb:bd=true:=by rw [HB.out];simp;omega
  subst hb
  have hv:vw=0:=by rw [HV.out];rfl
  subst hv
  rw [Bool.or_true]
  have hne:((er:Int) != 0)=true:=by
   have:(er:Int)≠0:=by omega
   simpa using this
  clear HB HV
  go_enter Tryz.func141,Tryz.ntmps141
  go_wp2_with fail
  refine HG.out.mono ?_
  rintro e w1 ⟨rfl,rfl⟩
  go_wp2_with fail
  go_ret
  exact ⟨rfl,HK2.out,HF2.out⟩
theorem r3col_any {w:World} {p:Nat} {c f:List Nat} {fl:Bool} (h:R3 w p c f fl) (k n:Nat) (hk:1<=k/\k<=3) (hn:n<=64) (hcl:c.length<=100000000) :
  Calls Tryz.prog 181 #[.pointer (some ⟨p,0,none⟩),.int .u8 (k:Int),.int .i64 (n:Int)] w fun r w'=>∃ v,r=.returned v/\OwnV w' w.heap.size v (colR k n (c,f,fl)).1/\R3 w' p (colR k n (c,f,fl)).2.1 (colR k n (c,f,fl)).2.2.1 (colR k n (c,f,fl)).2.2.2/\Fr p w.heap.size w w':=by
 have hlt:=h.lt
 have HW:=hidden (within_any h 0 c.length (by omega) (by omega))
 have HM:Hid (colR k n (c,f,fl)=((readC k (c.take (valW 0 c.length f)) n).getD [],(c.drop (valW 0 c.length f),rstW f,(fl || badW 0 c.length f) || (readC k (c.take (valW 0 c.length f)) n).isNone))):=hidden rfl
 have hvl:=valW_le 0 c.length f
 obtain ⟨a,cap,a',cap',⟨c0,c1,c2⟩,⟨f0,f1,f2⟩,⟨l1,l2,l3,l4⟩,y1,y2,y3,y4,y5⟩:=h.cells
 clear h y1 y2 y3 y4 y5
 rw [HM.out]
 clear HM
 obtain ⟨g,hg⟩:∃ g,(fl || badW 0 c.length f)=g:=⟨_,rfl⟩
 rw [hg] at HW ⊢
 clear hg
 generalize valW 0 c.length f=m at *
 generalize rstW f=rf at *
 obtain ⟨L,hL⟩:∃ L,(readC k (c.take m) n).getD []=L:=⟨_,rfl⟩
 obtain ⟨D,hD⟩:∃ D,(readC k (c.take m) n).isNone=D:=⟨_,rfl⟩
 rw [hL,hD]
 have HLD:=hidden (And.intro hL hD)
 clear hL hD
 go_enter Tryz.func181,Tryz.ntmps181
 go_wp2_with fail
 refine HW.out.mono ?_
 rintro e w1 ⟨rfl,hs1,hf1⟩
 clear c0 c1 c2 f0 f1 f2 l1 l2 l3 l4
 obtain ⟨a,cap,a',cap',⟨c0,c1,c2⟩,⟨f0,f1,f2⟩,⟨l1,l2,l3,l4⟩,⟨t1,t2⟩,y1,y2,y3,y4⟩:=hs1.cells
 have hT:=t1.take (k:=m) (by rw [vals_length];exact hvl)
 rw [vals_takeA] at hT
 have HC:=hidden (cread_any hT (hs1.bs.1.take m) k n)
 have HS1:=hidden hs1
 have HF1:=hidden hf1
 have hm1:(m:Int)<=(c.length:Int):=by omega
 have hm2:(m:Int)<=(cap:Int):=by omega
 have HSZ:=hidden hf1.size
 clear hs1 hf1 t1 t2 hT y1 y2 y3 y4
 go_wp2_with fail
 refine HC.out.mono ?_
 rintro e w2 ⟨v,l,er,rfl,ho,ht,hb⟩
 have hs2:=HS1.out.kept hb HS1.out.lt
 have hf2:=HF1.out.then (hb.mono HSZ.out)
 have HO2:=hidden ho
 have HS2:=hidden hs2
 have HF2:=hidden hf2
 have hnn:readC k (c.take m) n=none∨∃ y,readC k (c.take m) n=some y:=by cases readC k (c.take m) n<;>simp
 have HTD:Hid (L=l/\D=((er:Int) != 0)):=hidden (by
  rw [← HLD.out.1,← HLD.out.2]
  unfold Told6 at ht
  rw [if_pos hk,if_pos (by omega),Int.toNat_natCast] at ht
  rcases ht with ⟨rfl,e⟩ | ⟨h0,_,rfl,e⟩
  ·rw [e];exact ⟨rfl,by simp⟩
  ·rw [e]
   have:((er:Int) != 0)=true:=by
    have:(er:Int)≠0:=by omega
    simpa using this
   exact ⟨rfl,by rw [this];rfl⟩)
 obtain ⟨rfl,hd0⟩:=HTD.out
 have hd:=hd0.symm
 clear HTD hd0
 have HR2:Hid (R3 (w2.setCell ⟨p,2,none⟩ (.bool (g || D))) p c rf (g || D)):=hidden (by
  obtain ⟨_,_,_,_,_,_,_,_,_,k2,_⟩:=HS2.out.cells
  exact k2 _)
 have HF3:=hidden (HF2.out.set 2 (.bool (g || D)))
 clear c0 c1 c2 f0 f1 f2 l1 l2 l3 l4 hm1 hm2
 obtain ⟨a2,cap2,a2',cap2',⟨c0,c1,c2⟩,⟨f0,f1,f2⟩,⟨l1,l2,l3,l4⟩,y1,y2,y3,y4,y5⟩:=HS2.out.cells
 obtain ⟨a3,cap3,a3',cap3',⟨q0,q1,q2⟩,z0,x1,z1,z2,x2,y0,x3⟩:=HR2.out.cells
 have hq0:=q0
 rw [show (w2.setCell ⟨p,2,none⟩ (.bool (g || D))).cell? ⟨p,0,none⟩=w2.cell? ⟨p,0,none⟩ from World.cell?_setCell_other _ _ _ _ (by simp),c0] at hq0
 simp only [Option.some.injEq,Value.slice.injEq,true_and] at hq0
 obtain ⟨rfl,rfl⟩:=hq0
 obtain ⟨A,hA,hR4⟩:=y0 m hvl
 have hm1:(m:Int)<=(c.length:Int):=by omega
 have hm2:(m:Int)<=(cap2:Int):=by omega
 have HR4:=hidden hR4
 have HF4:=hidden (HF3.out.set 0 (.slice A (c.length-m) (cap2-m)))
 have HO4:=hidden (show OwnV _ w1.heap.size v L from Fr.own (((Fr.refl p w2.heap.size w2).set 2 (.bool (g || D))).set 0 (.slice A (c.length-m) (cap2-m))) HO2.out HS1.out.lt)
 have HSZ1:=hidden HSZ.out
 clear y0 y1 y2 y3 y4 y5 x1 x2 x3 hR4 hs2 hf2 hb ho ht hnn q0 q1 q2 z0 z1 z2
 have hsz0:w.heap.size<=w1.heap.size:=HSZ.out
 rcases g with _ | _<;>rcases D with _ | _
 all_goals
  go_wp2_with fail
  go_ret
  exact ⟨_,rfl,OwnV.of_le HO4.out HSZ1.out,HR4.out,HF4.out⟩
end Go.Proofs.YtpljdjmpamjkhaaGreatDoor
set_option linter.unusedVariables false
set_option linter.unusedSimpArgs false
set_option maxRecDepth 100000
set_option maxHeartbeats 4000000
namespace Go.Proofs.YtpljdjmpamjkhaaGreatDoor
open Go.RowKit Go.Lib
theorem r3stats_any {w:World} {p:Nat} {c f:List Nat} {fl:Bool} (h:R3 w p c f fl) {v:Value} {l:List Cl} (hs:Sv w v (vvals l)) (hf:∀ x∈l,Fine x) (hl:l.length<=256) :
  Calls Tryz.prog 182 #[.pointer (some ⟨p,0,none⟩),v] w fun r w'=>r=.returned (aggS (statM l))/\R3 w' p (staR l (c,f,fl)).1 (staR l (c,f,fl)).2.1 (staR l (c,f,fl)).2.2/\Fr p w.heap.size w w':=by
 have hlt:=h.lt
 have hz0:=Stb.new w stZ
 have hb0:=below_one w (.cells #[.int .i64 0,.int .i64 0,.bool false,.bool false,.int .u8 0,.int .i64 0,.string ⟨#[]⟩,.int .u8 0,.int .i64 0,.string ⟨#[]⟩] 54)
 have hz0':Stb (w.alloc (.cells #[.int .i64 0,.int .i64 0,.bool false,.bool false,.int .u8 0,.int .i64 0,.string ⟨#[]⟩,.int .u8 0,.int .i64 0,.string ⟨#[]⟩] 54)) w.heap.size stZ:=hz0
 have hs0:=hs.kept hb0
 have HR0:=hidden (h.kept hb0 hlt)
 obtain ⟨⟨M1,M2,M3⟩,hM⟩:∃ R:S3,staR l (c,f,fl)=R:=⟨_,rfl⟩
 have HM:Hid ((M1,M2,M3)=if (statB (statM l)).isPrefixOf f=true then (c,f.drop (statB (statM l)).length,fl) else (c,f,true)):=hidden (hM.symm.trans rfl)
 rw [hM]
 clear hM
 obtain ⟨m1,m2⟩:=statM_fine hf
 obtain ⟨nn,m3,m4⟩:=statM_nulls l
 have m5:∃ n:Nat,(statM l).nulls=(n:Int)/\n<=1000000:=⟨nn,m3,by omega⟩
 have HST:=hidden (statistic_told m1 m2 m5)
 have HBS:=hidden (statB_len m1 m2 m5).2
 have HSS:=hidden (stats_any hs0 hf (by omega))
 have HZ0:=hidden hz0'
 have HB0:=hidden hb0
 have sA:(w.alloc (.cells #[.int .i64 0,.int .i64 0,.bool false,.bool false,.int .u8 0,.int .i64 0,.string ⟨#[]⟩,.int .u8 0,.int .i64 0,.string ⟨#[]⟩] 54)).heap.size=w.heap.size+1:=World.size_alloc _ _
 have HSZ:=hidden sA
 obtain ⟨a,cap,rfl,hcap,hcm⟩:=hs.form1
 rw [vvals_length] at *
 clear hs hf hb0 hz0 hz0' hs0 m1 m2 m3 m4 m5 sA h
 generalize hA:w.alloc (.cells #[.int .i64 0,.int .i64 0,.bool false,.bool false,.int .u8 0,.int .i64 0,.string ⟨#[]⟩,.int .u8 0,.int .i64 0,.string ⟨#[]⟩] 54)=A at *
 generalize statB (statM l)=sb at *
 generalize statM l=st at *
 obtain ⟨x1,x2,x3,x4,⟨y1,y2,y3⟩,z1,z2,z3⟩:=st
 unfold aggS at *
 simp only at *
 go_enter Tryz.func182,Tryz.ntmps182
 go_wp2_with fail
 try rw [hA]
 refine HSS.out.mono ?_
 rintro e w1 ⟨rfl,hb1⟩
 have HR1:=hidden (HR0.out.kept hb1 HR0.out.lt)
 have HB1:=hidden hb1
 have HZ1:=hidden (HZ0.out.kept hb1)
 have hbq:=below_one w1 (.cells #[.int .i64 x1,.int .i64 x2,.bool x3,.bool x4,.int .u8 (y1:Int),.int .i64 y2,.string (bytesT y3),.int .u8 (z1:Int),.int .i64 z2,.string (bytesT z3)] 54)
 have HQ:=hidden (show Stb _ w1.heap.size ⟨x1,x2,x3,x4,(y1,y2,y3),(z1,z2,z3)⟩ from Stb.new w1 ⟨x1,x2,x3,x4,(y1,y2,y3),(z1,z2,z3)⟩)
 have HR2:=hidden (HR1.out.kept hbq HR1.out.lt)
 have HZ2:=hidden (HZ1.out.kept hbq)
 have HB2:=hidden hbq
 have sB:(w1.alloc (.cells #[.int .i64 x1,.int .i64 x2,.bool x3,.bool x4,.int .u8 (y1:Int),.int .i64 y2,.string (bytesT y3),.int .u8 (z1:Int),.int .i64 z2,.string (bytesT z3)] 54)).heap.size=w1.heap.size+1:=World.size_alloc _ _
 have HSB:=hidden sB
 clear hb1 hbq hA HR0 HZ0 sB
 generalize hB:w1.alloc (.cells #[.int .i64 x1,.int .i64 x2,.bool x3,.bool x4,.int .u8 (y1:Int),.int .i64 y2,.string (bytesT y3),.int .u8 (z1:Int),.int .i64 z2,.string (bytesT z3)] 54)=B at *
 go_upto_region 2 with fail
 try rw [hB]
 obtain ⟨a1,cap1,a1',cap1',⟨c0,c1,c2⟩,⟨f0,f1,f2⟩,⟨l1,l2,l3,l4⟩,k1,⟨s1,s2⟩,k3,k4,k5,k6⟩:=HR2.out.cells
 obtain ⟨_,⟨q0,q1,q2,q3⟩,⟨q4,q5,q6⟩,q7,q8,q9⟩:=HQ.out.at
 simp only [Nat.zero_add] at q0 q1 q2 q3 q4 q5 q6 q7 q8 q9
 have HCA:Hid (∀ U,Below B.heap.size B U->Calls Tryz.prog 84 #[.agg #[.int .i64 x1,.int .i64 x2,.bool x3,.bool x4,.int .u8 (y1:Int),.int .i64 y2,.string (bytesT y3),.int .u8 (z1:Int),.int .i64 z2,.string (bytesT z3)]] U fun e w'=>∃ v,e=.returned v/\Sv w' v (vals .u8 sb)/\Below B.heap.size B w'/\w'.cell? ⟨p,1,none⟩=some (.slice a1' f.length cap1')):=hidden (fun U hU=>by
  refine (HST.out U).mono ?_
  rintro e w' ⟨⟨v,rfl,ho⟩,hb⟩
  have hbb:=below_then hU hb
  exact ⟨v,rfl,ho.sv,hbb,(hbb.cell HR2.out.lt).trans c1⟩)
 have HCB:Hid (∀ U vb,Below B.heap.size B U->Sv U vb (vals .u8 sb)->Calls Tryz.prog 52 #[.slice a1' f.length cap1',vb] U fun e w'=>(∃ v,e=.returned (.tuple #[v,.bool (sb.isPrefixOf f)])/\Sv w' v (vals .u8 (if sb.isPrefixOf f=true then f.drop sb.length else f))/\∀ i,v.ownBlock=some i->i<p)/\w'=U):=hidden (fun U vb hU hvb=>by
  refine (cutP_any (HR2.out.cells2 hU c1).1 hvb HR2.out.bs.2 HBS.out).mono ?_
  rintro e w' ⟨⟨v,rfl,hv,hvp⟩,rfl⟩
  exact ⟨⟨v,rfl,hv,hvp p (HR2.out.cells2 hU c1).2⟩,rfl⟩)
 clear k1 s1 s2 k3 k4 k5 k6
 generalize sb.isPrefixOf f=px at *
 go_cut [6,7] from 10 (fun s6 s7 wx=>s7=.bool px/\Sv wx s6 (vals .u8 (if px=true then f.drop sb.length else f))/\(∀ i,s6.ownBlock=some i->i<p)/\Below B.heap.size B wx)
 case first =>
  refine wp_region_noPanic ?_
  go_region_law (first
   | (go_simp;go_at_call 84;refine (HCA.out _ ?_).mono ?_;exact below_drewN (Below.refl B.heap.size B) _;rintro e w5 ⟨v5,rfl,hs5,hb5,hc5⟩;have HS5:=hidden hs5;have HB5:=hidden hb5;clear hs5 hb5;dsimp only)
   | (go_simp;go_at_call 52;refine (HCB.out _ _ HB5.out HS5.out).mono ?_;rintro e w6 ⟨⟨v6,rfl,hs6,hp6⟩,rfl⟩;have HS6:=hidden hs6;have HP6:=hidden hp6;clear hs6 hp6;dsimp only)
   | fail)
  all_goals refine NoPanic.normal ?_
  all_goals (go_wp2_with fail;go_meet)
  all_goals exact ⟨rfl,HS6.out,HP6.out,HB5.out⟩
 case rest =>
 clear c0 c1 c2 f0 f1 f2 l1 l2 l3 l4 q0 q1 q2 q3 q4 q5 q6 q7 q8 q9 HCA HCB HST HSS
 obtain ⟨rfl,hs6,hp6,hb6⟩:=hcut
 have HG:Hid (Bs (if px=true then f.drop sb.length else f)):=hidden (by have:=HR2.out.bs.2;split;exact this.drop _;exact this)
 have hr3:=HR2.out.kept hb6 HR2.out.lt
 have hz3:=HZ2.out.kept hb6
 have hq3:=HQ.out.kept hb6
 have hbw:Below w.heap.size w wc:=below_then HB0.out (below_then HB1.out (below_then HB2.out hb6))
 have hsw:w.heap.size<w1.heap.size:=by have:=HSZ.out;have:=HB1.out.size;omega
 have hsz:w.heap.size<=wc.heap.size:=hbw.size
 obtain ⟨g,hg⟩:∃ g,(fl || !px)=g:=⟨_,rfl⟩
 obtain ⟨G,hG⟩:∃ G,(if px=true then f.drop sb.length else f)=G:=⟨_,rfl⟩
 rw [hG] at hs6 HG
 have HM2:Hid ((M1,M2,M3)=(c,G,g)):=hidden (by
  rw [HM.out,← hG,← hg]
  cases px<;>simp)
 have hf3:Fr p w.heap.size w wc:=Fr.of_below hbw
 obtain ⟨a1,cap1,a1',cap1',⟨c0,c1,c2⟩,⟨f0,f1,f2⟩,⟨l1,l2,l3,l4⟩,k1,k2,k3,k4,k5,k6⟩:=hr3.cells
 have hr4:=k3 g
 have hf4:=hf3.set 2 (.bool g)
 obtain ⟨_,_,_,_,_,_,_,_,_,_,_,_,k7⟩:=hr4.cells
 have hr5:=k7 u6 G (hs6.keptW (fun _=>hp6) (setp_below _)) HG.out hp6
 have hf5:=hf4.set 1 u6
 have hq5:=(hq3.other (p:=p) (by have:=hlt;omega) 2 (.bool g)).other (p:=p) (by have:=hlt;omega) 1 u6
 have hz5:=(hz3.other (p:=p) (by have:=hlt;omega) 2 (.bool g)).other (p:=p) (by have:=hlt;omega) 1 u6
 have hb7:=set10 (W:=(wc.setCell ⟨p,2,none⟩ (.bool g)).setCell ⟨p,1,none⟩ u6) (Below.refl w.heap.size _) (Nat.le_refl _) (.int .i64 x1) (.int .i64 x2) (.bool x3) (.bool x4) (.int .u8 (y1:Int)) (.int .i64 y2) (.string (bytesT y3)) (.int .u8 (z1:Int)) (.int .i64 z2) (.string (bytesT z3))
 have HR6:=hidden (hr5.kept hb7 hlt)
 have HF6:=hidden (hf5.trans (Fr.of_below hb7))
 obtain ⟨_,⟨q0,q1,q2,q3⟩,⟨q4,q5,q6⟩,q7,q8,q9⟩:=hq3.at
 obtain ⟨_,⟨r0,r1,r2,r3⟩,⟨r4,r5,r6⟩,r7,r8,r9⟩:=hz3.at
 simp only [Nat.zero_add] at q0 q1 q2 q3 q4 q5 q6 q7 q8 q9 r0 r1 r2 r3 r4 r5 r6 r7 r8 r9
 have fg:=hq3.frozen
 have fz:=hz3.frozen
 have hn1:¬ w1.heap.size=w.heap.size:=by omega
 have hn2:¬ w.heap.size=w1.heap.size:=by omega
 have hn3:¬ p=w.heap.size:=by omega
 have hn4:¬ p=w1.heap.size:=by omega
 have hn5:¬ w.heap.size=p:=by omega
 have hn6:¬ w1.heap.size=p:=by omega
 have hsv:∃ a6 n6 c6,u6=.slice a6 n6 c6:=by obtain ⟨_,_,h,_⟩:=hs6.form1;exact ⟨_,_,_,h⟩
 obtain ⟨a6,n6,c6,rfl⟩:=hsv
 clear k1 k2 k3 k4 k5 k6 k7 hr4 hf4 hr5 hf5 hq5 hz5 hb7 hr3 hz3 hq3 hs6 hp6 hb6 hf3 hG hbw HM
 have HEQ:Hid (∀ W,R3 W p c G g->R3 W p M1 M2 M3):=hidden (fun W hW=>by
  have e:=HM2.out
  simp only [Prod.mk.injEq] at e
  rw [e.1,e.2.1,e.2.2]
  exact hW)
 cases fl<;>cases px
 all_goals
  simp only [Bool.not_true,Bool.not_false,Bool.or_false,Bool.or_true,Bool.true_or,Bool.false_or] at hg
  subst hg
  go_wp2_with fail
  refine bodyPost_ret (v:=.agg #[.int .i64 x1,.int .i64 x2,.bool x3,.bool x4,.int .u8 (y1:Int),.int .i64 y2,.string (bytesT y3),.int .u8 (z1:Int),.int .i64 z2,.string (bytesT z3)]) (by simp [results,Tryz.results182,go_sem,hn1,hn2,hn3,hn4,hn5,hn6,r0,r1,r2,r3,r4,r5,r6,r7,r8,r9]) rfl ⟨rfl,HEQ.out _ HR6.out,HF6.out⟩
end Go.Proofs.YtpljdjmpamjkhaaGreatDoor
set_option linter.unusedVariables false
set_option linter.unusedSimpArgs false
namespace Go.Proofs.YtpljdjmpamjkhaaGreatDoor
open Go.RowKit Go.Lib
def Ss (W:World) (v:Value) (l:List Stt):Prop:=∃ a cap,v=.slice a l.length cap/\l.length<=cap/\cap<=maxLen/\(0<l.length->∃ b off,a=some ⟨b,off,none⟩/\∀ j (h:j<l.length),StAt W b (off+j*10) l[j])
theorem Ss.kept {W W':World} {v:Value} {l:List Stt} (h:Ss W v l) (hb:Below W.heap.size W W'):Ss W' v l:=by
 obtain ⟨a,cap,h1,h2,h3,h4⟩:=h
 refine ⟨a,cap,h1,h2,h3,fun h0=>?_⟩
 obtain ⟨b,off,h5,h6⟩:=h4 h0
 exact ⟨b,off,h5,fun j h=>(h6 j h).kept hb⟩
theorem Ss.form {W:World} {v:Value} {l:List Stt} (h:Ss W v l):∃ a cap,v=.slice a l.length cap/\l.length<=cap/\cap<=maxLen:=by
 obtain ⟨a,cap,h1,h2,h3,_⟩:=h
 exact ⟨a,cap,h1,h2,h3⟩
theorem Ss.at {W:World} {a:Option Addr} {n cap:Nat} {l:List Stt} (h:Ss W (.slice a n cap) l) {i:Nat} (hi:i<l.length):∃ g o,a=some ⟨g,o,none⟩/\StAt W g (o+i*10) l[i]:=by
 obtain ⟨a',cap',e,_,_,h4⟩:=h
 simp only [Value.slice.injEq] at e
 obtain ⟨rfl,_,_⟩:=e
 obtain ⟨g,o,rfl,h6⟩:=h4 (by omega)
 exact ⟨g,o,rfl,h6 i hi⟩
def RowsOf (W:World) (q si:Nat) (fv sv:Value) (l:List Fd) (r:List Stt):Prop :=
 q<W.heap.size/\W.cell? ⟨q,0,none⟩=some (.int .u32 (si:Int))/\W.cell? ⟨q,1,none⟩=some fv/\W.cell? ⟨q,2,none⟩=some sv/\Sf W fv l/\Ss W sv r
theorem RowsOf.kept {W W':World} {q si:Nat} {fv rv:Value} {l:List Fd} {r:List Stt} (h:RowsOf W q si fv rv l r) (hb:Below W.heap.size W W'):RowsOf W' q si fv rv l r:=by
 obtain ⟨h0,h1,h2,h3,h4,h5⟩:=h
 have e:∀ o,W'.cell? ⟨q,o,none⟩=W.cell? ⟨q,o,none⟩:=fun o=>(bcell hb).1 q o h0
 exact ⟨Nat.lt_of_lt_of_le h0 hb.size,by rw [e];exact h1,by rw [e];exact h2,by rw [e];exact h3,h4.kept hb,h5.kept hb⟩
theorem mleafM_none {l:List Fd} {r:List Stt} {op f:Nat} {c:Cl} (h:place l f=none):mleafM l r op f c=(true,true,true):=by unfold mleafM;rw [h]
theorem mleafM_past {l:List Fd} {r:List Stt} {op f j:Nat} {c:Cl} (h:place l f=some j) (hj:¬ j<r.length):mleafM l r op f c=(true,true,true):=by
 unfold mleafM;rw [h];simp only;rw [List.getElem?_eq_none (by omega)]
theorem mleafM_at {l:List Fd} {r:List Stt} {op f j:Nat} {c:Cl} (h:place l f=some j) (hj:j<r.length):mleafM l r op f c=mleafX op c r[j]:=by
 unfold mleafM;rw [h];simp only;rw [List.getElem?_eq_getElem hj]
end Go.Proofs.YtpljdjmpamjkhaaGreatDoor
set_option linter.unusedVariables false
set_option linter.unusedSimpArgs false
set_option maxRecDepth 100000
namespace Go.Proofs.YtpljdjmpamjkhaaGreatDoor
open Go.ChangeShapes Go.WideShapes Go.ChangeAt Go.RowKit Go.Lib Go.Joins
theorem own:ownKnob Tryz.prog.godebug=none:=by kernel_rfl
theorem laidOut:laidOutB Tryz.prog=true:=by kernel_rfl
theorem cells_one {W:World} {B:Nat} {a:Addr} {cs:List Value} (h:W.cells? B a 1=some cs):∃ c,cs=[c]/\W.cell? a=some c:=by
 obtain ⟨_,hl,hc⟩:=World.cells?_some h
 match cs,hl with
 | [c],_=>exact ⟨c,rfl,by simpa [Addr.add] using hc 0 (by omega)⟩
theorem cells52:Tryz.prog.cellsOf 52=3:=by kernel_rfl
theorem open_cells {H:Type} {enc:TypeId×Value->H} {W:World} {spare:Nat->Bool} {held:Bool} {a:Option Addr} {len cap:Nat} {d:DataW H} {p:List MemPlace}
  (h:DataW.Trod enc Tryz.prog W 0 spare held 58 (.slice a len cap) d p):∃ l:List (Nat×Int×List Nat),Sc W (.slice a len cap) l/\∀ c∈l,Okc c:=by
 obtain ⟨fuel,hf⟩:=h
 rcases Deep.open_slice Tryz.underlying58 hf with ⟨h1,_⟩ | ⟨a1,l1,c1,m,n,D,Pl,h1,_,hlc,hm,hmm,_,hcells⟩
 ·simp [Value.cells] at h1
  obtain ⟨rfl,rfl,rfl⟩:=h1
  exact ⟨[],⟨none,0,rfl,Nat.le_refl _,by unfold maxLen;omega,fun h=>by simp at h⟩,fun x hx=>by simp at hx⟩
 ·simp [Value.cells] at h1
  obtain ⟨rfl,rfl,rfl⟩:=h1
  rw [cells52] at hcells
  have hlm:len<=m:=by rw [hmm];split<;>omega
  have hone:∀ i,i<len->∃ x:Nat×Int×List Nat,Okc x/\W.cell? ((a1.add (i*3)).add 0)=some (.int .u8 (x.1:Int))/\W.cell? ((a1.add (i*3)).add 1)=some (.int .i64 x.2.1)/\W.cell? ((a1.add (i*3)).add 2)=some (txt x.2.2):=by
   intro i hi
   obtain ⟨cs,hc,ht⟩:=hcells i (by omega)
   obtain ⟨c0,c1,c2,rfl,e0,e1,e2⟩:=cells_three hc
   obtain ⟨y0,y1,y2,m1,_,_,t0,t1,t2⟩:=Deep.trod_struct3 Tryz.underlying52 ht
   have k28:Tryz.prog.cellsOf 50=1:=by kernel_rfl
   have k9:Tryz.prog.cellsOf 9=1:=by kernel_rfl
   have k2:Tryz.prog.cellsOf 2=1:=by kernel_rfl
   simp only [k28,k9,k2] at t0 t1 t2
   obtain ⟨k,q0,_,wk⟩:=DataW.trod_int Tryz.underlying50 t0
   obtain ⟨n,q1,_,wn⟩:=DataW.trod_int Tryz.underlying2 t1
   obtain ⟨s,q2,_⟩:=DataW.trod_string Tryz.underlying9 t2
   simp at q0 q1 q2
   subst q0 q1 q2
   have hk:=bounds_u8 wk
   have hn:=bounds_i64 wn
   have hI:I64 n:=⟨hn.1,by have:=hn.2;omega⟩
   have hke:((k.toNat:Nat):Int)=k:=by omega
   refine ⟨(k.toNat,n,natsT s),⟨show k.toNat<256 by omega,hI,natsT_bs s⟩,?_,e1,?_⟩
   ·show _=some (Value.int .u8 ((k.toNat:Nat):Int))
    rw [e0,hke]
   ·rw [e2,txt_eq,bytesT_nats]
  obtain ⟨f,hf2⟩:=Deep.choose_lt hone
  have hll:((List.range len).map f).length=len:=by simp
  refine ⟨(List.range len).map f,⟨some a1,cap,by rw [hll],by rw [hll];omega,by omega,fun h0=>?_⟩,?_⟩
  ·rw [hll] at h0
   obtain ⟨b,off,spot⟩:=a1
   have hspot:spot=none:=by
    have:=World.cell?_spot (hf2 0 (by omega)).2.1
    simpa [Addr.add] using this
   subst hspot
   have hb:b<W.heap.size:=by
    obtain ⟨cs,hc,_⟩:=hcells 0 (by omega)
    have:=World.cells?_block hc (by omega)
    simpa [Addr.add] using this
   refine ⟨b,off,rfl,hb,fun j x hj=>?_⟩
   have hjl:j<len*3:=by
    have:=(List.getElem?_eq_some_iff.1 hj).1
    rw [cvals_length,hll] at this
    exact this
   have hi:j / 3<len:=by omega
   have hi2:j / 3<((List.range len).map f).length:=by rw [hll];exact hi
   obtain ⟨g0,g1,g2⟩:=cvals_get hi2
   obtain ⟨_,k0,k1,k2⟩:=hf2 (j / 3) hi
   rw [addj,addj] at k0 k1 k2
   have hfe:((List.range len).map f)[j / 3]=f (j / 3):=by simp
   rw [hfe] at g0 g1 g2
   obtain h | h | h:j=j / 3*3∨j=j / 3*3+1∨j=j / 3*3+2:=by omega
   ·rw [h] at hj ⊢
    rw [g0] at hj
    rw [← hj,← k0]
    rfl
   ·rw [h] at hj ⊢
    rw [g1] at hj
    rw [← hj,← k1]
    rfl
   ·rw [h] at hj ⊢
    rw [g2] at hj
    rw [← hj,← k2]
    rfl
  ·intro x hx
   obtain ⟨i,hi,rfl⟩:=List.mem_map.1 hx
   exact (hf2 i (by simpa using hi)).1
theorem cells81:Tryz.prog.cellsOf 81=4:=by kernel_rfl
theorem cells25:Tryz.prog.cellsOf 25=2:=by kernel_rfl
theorem cells_four {W:World} {base:Nat} {a:Addr} {cs:List Value} (h:W.cells? base a 4=some cs):∃ c0 c1 c2 c3,cs=[c0,c1,c2,c3]/\W.cell? (a.add 0)=some c0/\W.cell? (a.add 1)=some c1/\W.cell? (a.add 2)=some c2/\W.cell? (a.add 3)=some c3:=by
 obtain ⟨_,hl,hc⟩:=World.cells?_some h
 match cs,hl with
 | [c0,c1,c2,c3],_=>exact ⟨c0,c1,c2,c3,rfl,by simpa using hc 0 (by omega),by simpa using hc 1 (by omega),by simpa using hc 2 (by omega),by simpa using hc 3 (by omega)⟩
theorem open_fields {H:Type} {enc:TypeId×Value->H} {W:World} {spare:Nat->Bool} {held:Bool} {fuel:Nat} {v:Value} {y:DataW H×List MemPlace}
  (hf:DataW.trod enc Tryz.prog W 0 spare held fuel 23 [v]=some y):∃ l:List Fd,Sf W v l/\∀ f∈l,Okf f:=by
 rcases Deep.open_slice Tryz.underlying23 hf with ⟨h1,_⟩ | ⟨a1,len,cap,m,n,D,Pl,h1,_,hlc,hm,hmm,_,hcells⟩
 ·simp at h1
  subst h1
  exact ⟨[],Sf.nil _,fun x hx=>by simp at hx⟩
 ·simp at h1
  subst h1
  rw [cells81] at hcells
  have hlm:len<=m:=by rw [hmm];split<;>omega
  have hone:∀ i,i<len->∃ x:Fd,Okf x/\W.cell? ((a1.add (i*4)).add 0)=some (.int .u32 (x.1:Int))/\W.cell? ((a1.add (i*4)).add 1)=some (.string x.2.1)/\W.cell? ((a1.add (i*4)).add 2)=some (.int .u8 (x.2.2.1:Int))/\W.cell? ((a1.add (i*4)).add 3)=some (.bool x.2.2.2):=by
   intro i hi
   obtain ⟨cs,hc,ht⟩:=hcells i (by omega)
   obtain ⟨c0,c1,c2,c3,rfl,e0,e1,e2,e3⟩:=cells_four hc
   obtain ⟨y0,y1,y2,y3,m1,_,_,t0,t1,t2,t3⟩:=trod_struct4 Tryz.underlying81 ht
   have k22:Tryz.prog.cellsOf 22=1:=by kernel_rfl
   have k9:Tryz.prog.cellsOf 9=1:=by kernel_rfl
   have k31:Tryz.prog.cellsOf 50=1:=by kernel_rfl
   have k4:Tryz.prog.cellsOf 4=1:=by kernel_rfl
   simp only [k22,k9,k31,k4] at t0 t1 t2 t3
   obtain ⟨k,q0,_,wk⟩:=DataW.trod_int Tryz.underlying22 t0
   obtain ⟨s,q1,_⟩:=DataW.trod_string Tryz.underlying9 t1
   obtain ⟨n,q2,_,wn⟩:=DataW.trod_int Tryz.underlying50 t2
   obtain ⟨bo,q3,_⟩:=DataW.trod_bool Tryz.underlying4 t3
   simp at q0 q1 q2 q3
   subst q0 q1 q2 q3
   have hk:=bounds_u32 wk
   have hn:=bounds_u8 wn
   have hke:((k.toNat:Nat):Int)=k:=by omega
   have hne:((n.toNat:Nat):Int)=n:=by omega
   refine ⟨(k.toNat,s,n.toNat,bo),⟨show k.toNat<4294967296 by omega,show n.toNat<256 by omega⟩,?_,e1,?_,e3⟩
   ·show _=some (Value.int .u32 ((k.toNat:Nat):Int))
    rw [e0,hke]
   ·show _=some (Value.int .u8 ((n.toNat:Nat):Int))
    rw [e2,hne]
  obtain ⟨f,hf2⟩:=Deep.choose_lt hone
  have hll:((List.range len).map f).length=len:=by simp
  refine ⟨(List.range len).map f,⟨some a1,cap,by rw [hll],by rw [hll];omega,by omega,fun h=>by (cases h),fun h0=>?_⟩,?_⟩
  ·rw [hll] at h0
   obtain ⟨b,off,spot⟩:=a1
   have hspot:spot=none:=by
    have:=World.cell?_spot (hf2 0 (by omega)).2.1
    simpa [Addr.add] using this
   subst hspot
   have hb:b<W.heap.size:=by
    obtain ⟨cs,hc,_⟩:=hcells 0 (by omega)
    have:=World.cells?_block hc (by omega)
    simpa [Addr.add] using this
   refine ⟨b,off,rfl,hb,fun j x hj=>?_⟩
   have hjl:j<len*4:=by
    have:=(List.getElem?_eq_some_iff.1 hj).1
    rw [fvals_length,hll] at this
    exact this
   have hi:j / 4<len:=by omega
   have hi2:j / 4<((List.range len).map f).length:=by rw [hll];exact hi
   obtain ⟨g0,g1,g2,g3⟩:=fvals_get hi2
   obtain ⟨_,k0,k1,k2,k3⟩:=hf2 (j / 4) hi
   rw [addj,addj] at k0 k1 k2 k3
   have hfe:((List.range len).map f)[j / 4]=f (j / 4):=by simp
   rw [hfe] at g0 g1 g2 g3
   obtain h | h | h | h:j=j / 4*4∨j=j / 4*4+1∨j=j / 4*4+2∨j=j / 4*4+3:=by omega
   ·rw [h] at hj ⊢
    rw [g0] at hj
    rw [← hj,← k0]
    rfl
   ·rw [h] at hj ⊢
    rw [g1] at hj
    rw [← hj,← k1]
    rfl
   ·rw [h] at hj ⊢
    rw [g2] at hj
    rw [← hj,← k2]
    rfl
   ·rw [h] at hj ⊢
    rw [g3] at hj
    rw [← hj,← k3]
    rfl
  ·intro x hx
   obtain ⟨i,hi,rfl⟩:=List.mem_map.1 hx
   exact (hf2 i (by simpa using hi)).1
theorem open_schema {H:Type} {enc:TypeId×Value->H} {W:World} {r:Reach} {b0:Nat} {spare:Nat->Bool} {held:Bool} {v:Value} {d:DataW H} {p:List MemPlace}
  (hv:Value.okWide Tryz.prog W r b0 25 v) (h:DataW.Trod enc Tryz.prog W 0 spare held 25 v d p) :
  ∃ (id:Nat) (u:Value) (l:List Fd),v=.agg #[.int .u32 (id:Int),u]/\id<4294967296/\Sf W u l/\∀ f∈l,Okf f:=by
 obtain ⟨c0,c1,y0,y1,m,rfl,_,_,h0,h1⟩:=open_agg2 Tryz.underlying25 (by kernel_rfl) cells25 hv h
 obtain ⟨k,e0,_,wk⟩:=DataW.trod_int Tryz.underlying22 h0
 simp at e0
 subst e0
 have hk:=bounds_u32 wk
 obtain ⟨l,hl,ho⟩:=open_fields h1
 obtain ⟨n,rfl⟩:=Int.eq_ofNat_of_zero_le hk.1
 exact ⟨n,c1,l,rfl,by omega,hl,ho⟩
end Go.Proofs.YtpljdjmpamjkhaaGreatDoor
