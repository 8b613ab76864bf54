/- Contracts: the reader's schema. -/
import Derived.Test.YtpljdjmpamjkhaaGreatDoorZbm
set_option linter.unusedVariables false
set_option linter.unusedSimpArgs false
set_option maxRecDepth 100000
set_option maxHeartbeats 4000000
namespace Go.Proofs.YtpljdjmpamjkhaaGreatDoor
open Go.RowKit Go.Lib
def Sch (w:World) (p:Nat) (W:World) (b:List Nat) (f:Nat) (x0 x1:Value):Prop :=
 St 200 W p b f/\p<w.heap.size/\W.heap[w.heap.size]?=some (.cells #[.int .u32 0,.slice none 0 0] 25 (0,0)) /\
 W.heap[w.heap.size+1]?=some (.cells #[x0,x1] 25 (0,0))/\Fr p w.heap.size w W
theorem Sch.begin {w:World} {p f:Nat} {b:List Nat} (h:St 200 w p b f) :
  Sch w p ((w.alloc (.cells #[.int .u32 0,.slice none 0 0] 25)).alloc (.cells #[.int .u32 0,.slice none 0 0] 25)) b f (.int .u32 0) (.slice none 0 0):=by
 have hbW:=((Below.refl w.heap.size w).alloc (Nat.le_refl _) (.cells #[.int .u32 0,.slice none 0 0] 25)).alloc (by rw [World.size_alloc];omega) (.cells #[.int .u32 0,.slice none 0 0] 25)
 have hz0:(w.alloc (.cells #[.int .u32 0,.slice none 0 0] 25)).heap.size=w.heap.size+1:=World.size_alloc _ _
 have hb1:=below_one (w.alloc (.cells #[.int .u32 0,.slice none 0 0] 25)) (.cells #[.int .u32 0,.slice none 0 0] 25)
 have hh0:=heap_alloc_new w (.cells #[.int .u32 0,.slice none 0 0] 25)
 have hh:=heap_alloc_new (w.alloc (.cells #[.int .u32 0,.slice none 0 0] 25)) (.cells #[.int .u32 0,.slice none 0 0] 25)
 rw [hz0] at hh
 exact ⟨h.kept hbW h.lt,h.lt,(hb1.block w.heap.size (by omega)).trans hh0,hh,Fr.of_below hbW⟩
theorem Sch.call {w W W':World} {p f f':Nat} {b b':List Nat} {x0 x1:Value} (h:Sch w p W b f x0 x1) (hs:St 200 W' p b' f') (hf:Fr p W.heap.size W W'):Sch w p W' b' f' x0 x1:=by
 obtain ⟨h1,h2,h3,h4,h5⟩:=h
 have l3:=(Array.getElem?_eq_some_iff.1 h3).1
 have l4:=(Array.getElem?_eq_some_iff.1 h4).1
 exact ⟨hs,h2,(hf.block _ l3 (by omega)).trans h3,(hf.block _ l4 (by omega)).trans h4,h5.trans (hf.mono (by omega))⟩
theorem Sch.size {w W:World} {p f:Nat} {b:List Nat} {x0 x1:Value} (h:Sch w p W b f x0 x1):w.heap.size+2<=W.heap.size:=(Array.getElem?_eq_some_iff.1 h.2.2.2.1).1
theorem Sch.kept {w W W':World} {p f:Nat} {b:List Nat} {x0 x1:Value} (h:Sch w p W b f x0 x1) (hb:Below (w.heap.size+2) W W'):Sch w p W' b f x0 x1:=by
 obtain ⟨h1,h2,h3,h4,h5⟩:=h
 exact ⟨h1.kept hb (by omega),h2,(hb.block _ (by omega)).trans h3,(hb.block _ (by omega)).trans h4,h5.then (hb.mono (by omega))⟩
theorem Sch.facts {w W:World} {p f:Nat} {b:List Nat} {x0 x1:Value} (h:Sch w p W b f x0 x1) :
  (W.cell? ⟨w.heap.size+1,0,none⟩=some x0/\W.cell? ⟨w.heap.size+1,1,none⟩=some x1) /\
  (W.frozen? ⟨w.heap.size+1,0,none⟩=false/\W.frozen? ⟨w.heap.size+1,1,none⟩=false) /\
  (W.cell? ⟨w.heap.size,0,none⟩=some (.int .u32 0)/\W.cell? ⟨w.heap.size,1,none⟩=some (.slice none 0 0)) /\
  (W.frozen? ⟨w.heap.size,0,none⟩=false/\W.frozen? ⟨w.heap.size,1,none⟩=false):=by
 obtain ⟨h1,h2,h3,h4,h5⟩:=h
 refine ⟨⟨?_,?_⟩,⟨?_,?_⟩,⟨?_,?_⟩,⟨?_,?_⟩⟩<;>first | (rw [cell_block h4];rfl) | (rw [cell_block h3];rfl) | (simp [World.frozen?,h4];done) | (simp [World.frozen?,h3];done)
theorem Sch.keep {w W:World} {p f:Nat} {b:List Nat} {x0 x1:Value} (h:Sch w p W b f x0 x1) (j:Nat) (v:Value) :
  St 200 (W.setCell ⟨w.heap.size+1,j,none⟩ v) p b f/\(W.setCell ⟨w.heap.size+1,j,none⟩ v).heap[w.heap.size]?=some (.cells #[.int .u32 0,.slice none 0 0] 25 (0,0))/\Fr p w.heap.size w (W.setCell ⟨w.heap.size+1,j,none⟩ v):=by
 obtain ⟨h1,h2,h3,h4,h5⟩:=h
 have hb:Below (w.heap.size+1) W (W.setCell ⟨w.heap.size+1,j,none⟩ v):=(Below.refl (w.heap.size+1) W).setCell (show w.heap.size+1<=w.heap.size+1 from Nat.le_refl _) _
 exact ⟨h1.kept hb (by omega),(hb.block _ (by omega)).trans h3,h5.then (hb.mono (by omega))⟩
theorem Sch.set0 {w W:World} {p f:Nat} {b:List Nat} {x0 x1:Value} (h:Sch w p W b f x0 x1) (v:Value):Sch w p (W.setCell ⟨w.heap.size+1,0,none⟩ v) b f v x1 :=
 ⟨(h.keep 0 v).1,h.2.1,(h.keep 0 v).2.1,by rw [heap_set h.2.2.2.1];rfl,(h.keep 0 v).2.2⟩
theorem Sch.set1 {w W:World} {p f:Nat} {b:List Nat} {x0 x1:Value} (h:Sch w p W b f x0 x1) (v:Value):Sch w p (W.setCell ⟨w.heap.size+1,1,none⟩ v) b f x0 v :=
 ⟨(h.keep 1 v).1,h.2.1,(h.keep 1 v).2.1,by rw [heap_set h.2.2.2.1];rfl,(h.keep 1 v).2.2⟩
theorem Sch.done {w W:World} {p f:Nat} {b:List Nat} {x0 x1:Value} (h:Sch w p W b f x0 x1) (y0 y1:Value) :
  St 200 ((W.setCell ⟨w.heap.size,0,none⟩ y0).setCell ⟨w.heap.size,1,none⟩ y1) p b f/\Fr p w.heap.size w ((W.setCell ⟨w.heap.size,0,none⟩ y0).setCell ⟨w.heap.size,1,none⟩ y1):=by
 obtain ⟨h1,h2,h3,h4,h5⟩:=h
 have hb:=below_set2 (Below.refl w.heap.size W) (Nat.le_refl w.heap.size) y0 y1
 exact ⟨h1.kept hb h2,h5.then hb⟩
theorem rds_flds {k:Nat} {b b1 b2:List Nat} {f f1 f2:Nat} {x:List Fd} {y:Fd} (h1:Rds (fldsU k) b f x b1 f1) (h2:Rds fldU b1 f1 y b2 f2):Rds (fldsU (k+1)) b f (x++[y]) b2 f2 :=
 h1.bind (h2.bind (Rds.pure (x++[y]) b2 f2))
def SchPost (p:Nat) (b:List Nat) (f:Nat) (w:World) (r:Ending) (w':World):Prop :=
 ∃ (id:Nat) (l:List Fd) (v:Value) (b':List Nat) (f':Nat),r=.returned (.agg #[.int .u32 (id:Int),v])/\OwnF w' w.heap.size v l/\id<4294967296/\l.length<=8/\(∀ y∈l,Okf y/\y.2.1.size<=16) /\
  St 200 w' p b' f'/\Rds schU b f (id,l) b' f'/\Fr p w.heap.size w w'
theorem rds_sch {b b1 b2 b3:List Nat} {f f1 f2 f3 i n:Nat} {l:List Fd} (h1:Rds (numU 4294967295) b f i b1 f1) (h2:Rds (numU 8) b1 f1 n b2 f2) (h3:Rds (fldsU n) b2 f2 l b3 f3):Rds schU b f (i,l) b3 f3 :=
 h1.bind (h2.bind (h3.bind (Rds.pure (i,l) b3 f3)))
theorem own_set1 {w1:World} {B p:Nat} {v:Value} {l:List Fd} (h:OwnF w1 B v l) (hp:p<B) (j:Nat) (x:Value):OwnF (w1.setCell ⟨p,j,none⟩ x) B v l :=
 Fr.own ((Fr.refl p w1.heap.size w1).set j x) h hp
theorem schema_any {w:World} {p f:Nat} {b:List Nat} (h:St 200 w p b f) :
  Calls Tryz.prog 139 #[.pointer (some ⟨p,0,none⟩)] w (SchPost p b f w):=by
 have HM:=hidden (Sch.begin h)
 have hz0:(w.alloc (.cells #[.int .u32 0,.slice none 0 0] 25)).heap.size=w.heap.size+1:=World.size_alloc _ _
 clear h
 generalize hW:(w.alloc (.cells #[.int .u32 0,.slice none 0 0] 25)).alloc (.cells #[.int .u32 0,.slice none 0 0] 25)=W at *
 go_enter Tryz.func139,Tryz.ntmps139
 go_wp2_with fail
 try rw [hW]
 clear hW hz0
 refine (number_any HM.out.1 4294967295 (by omega)).mono ?_
 rintro e w1 ⟨i,b1,f1,rfl,hi,hs1,hr1,hf1⟩
 have HM1:=hidden (HM.out.call hs1 hf1)
 have HR1:=hidden hr1
 have HI:=hidden hi
 have hi':i<4294967296:=by omega
 obtain ⟨⟨c0,c1⟩,⟨z0,z1⟩,_,_⟩:=HM1.out.facts
 clear hs1 hr1 hf1 hi HM
 go_wp2_with fail
 have HM2:=hidden (HM1.out.set0 (.int .u32 (i:Int)))
 clear HM1 c0 c1 z0 z1
 generalize hX:w1.setCell ⟨w.heap.size+1,0,none⟩ (.int .u32 (i:Int))=X at *
 try rw [hX]
 clear hX
 refine (number_any HM2.out.1 8 (by omega)).mono ?_
 rintro e w2 ⟨n,b2,f2,rfl,hn,hs2,hr2,hf2⟩
 have HM3:=hidden (HM2.out.call hs2 hf2)
 have HR2:=hidden hr2
 clear hs2 hr2 hf2 HM2
 go_wp2_with fail
 go_loopw [10] (fun i' wr=>∃ (k:Nat) (x:List Fd) (bk:List Nat) (fk:Nat) (a:Option Addr) (cap:Nat),k<=n/\i'=.int .u64 (k:Int)/\Sch w p wr bk fk (.int .u32 (i:Int)) (.slice a k cap)/\OwnF wr (w.heap.size+2) (.slice a k cap) x/\x.length=k/\(∀ y∈x,Okf y/\y.2.1.size<=16)/\Rds (fldsU k) b2 f2 x bk fk) (fun i' _=>n-(intOf i').toNat)
 case atStart=>exact ⟨0,[],b2,f2,none,0,by omega,rfl,HM3.out,OwnF.nil _ _,rfl,(fun _ h=>absurd h (by simp)),Rds.pure [] b2 f2⟩
 case round =>
  obtain ⟨k,x,bk,fk,a,cap,hk,rfl,hsch,hown,hxl,hok,hrk⟩:=hrel
  have HM4:=hidden hsch
  have HO:=hidden hown
  have HXL:=hidden hxl
  have HOK:=hidden hok
  have HRK:=hidden hrk
  clear hown hxl hok hrk
  by_cases hlt:k<n
  ·have hlt':(k:Int)<(n:Int):=by omega
   have hwk:IntKind.u64.wrap ((k:Int)+1)=((k+1:Nat):Int):=by rw [IntKind.wrap_u64];omega
   obtain ⟨⟨c0,c1⟩,⟨z0,z1⟩,_,_⟩:=hsch.facts
   have HSZ:=hidden hsch.size
   clear hsch
   have HCL:Hid (∀ m,Calls Tryz.prog 179 #[.pointer (some ⟨p,0,none⟩)] (wr.drewN m) fun e w'=>∃ (y0:Nat) (y1:ByteArray) (y2:Nat) (y3:Bool) (b':List Nat) (f':Nat),e=.returned (.agg #[.int .u32 (y0:Int),.string y1,.int .u8 (y2:Int),.bool y3])/\(Okf (y0,y1,y2,y3)/\y1.size<=16)/\Sch w p w' b' f' (.int .u32 (i:Int)) (.slice a k cap)/\Rds fldU bk fk (y0,y1,y2,y3) b' f'/\OwnF w' (w.heap.size+2) (.slice a k cap) x/\w.heap.size+2<=w'.heap.size/\w'.cell? ⟨w.heap.size+1,1,none⟩=some (.slice a k cap)/\(w'.alloc (.cells #[.int .u32 (y0:Int),.string y1,.int .u8 (y2:Int),.bool y3] 81)).cell? ⟨w.heap.size+1,1,none⟩=some (.slice a k cap)):=hidden (fun m=>by
    have hbd:Below wr.heap.size wr (wr.drewN m):=below_drewN (Below.refl wr.heap.size wr) m
    refine (field_any (HM4.out.1.kept hbd HM4.out.1.lt)).mono ?_
    rintro e w' ⟨⟨y0,y1,y2,y3⟩,b',f',rfl,hy,hs',hr',hf'⟩
    have hf2:Fr p wr.heap.size wr w':=(Fr.of_below hbd).trans (hf'.mono hbd.size)
    have hm:=HM4.out.call hs' hf2
    obtain ⟨⟨d0,d1⟩,⟨e0,e1⟩,_,_⟩:=hm.facts
    have hp2:=HM4.out.2.1
    exact ⟨y0,y1,y2,y3,b',f',rfl,hy,hm,hr',Fr.own hf2 HO.out (by omega),hm.size,d1,((below_one w' _).cell (p:=⟨w.heap.size+1,1,none⟩) (by have:=hm.size;show w.heap.size+1<_;omega)).trans d1⟩)
   have HAP:Hid (∀ y b' f' w6 w7 v7,Sch w p w6 b' f' (.int .u32 (i:Int)) (.slice a k cap)->OwnF w7 (w.heap.size+2) v7 (x++[y])->Below (w.heap.size+2) w6 w7->∃ a7 cap7,v7=.slice a7 (k+1) cap7/\Sch w p w7 b' f' (.int .u32 (i:Int)) (.slice a k cap)/\(w7.cell? ⟨w.heap.size+1,1,none⟩=some (.slice a k cap)/\w7.frozen? ⟨w.heap.size+1,1,none⟩=false)):=hidden (fun y b' f' w6 w7 v7 hm o7 hb7=>by
    obtain ⟨a7,cap7,hv,_,_⟩:=own_slice o7
    rw [List.length_append,List.length_singleton,HXL.out] at hv
    have hm7:=hm.kept hb7
    obtain ⟨⟨d0,d1⟩,⟨e0,e1⟩,_,_⟩:=hm7.facts
    exact ⟨a7,cap7,hv,hm7,d1,e1⟩)
   have HLN:Hid (∀ y:Fd,x.length+[y].length<=100000):=hidden (fun y=>by rw [List.length_singleton,HXL.out];omega)
   clear c0 z0 z1
   go_wp2_with fail
   refine wp_region_any (by kernel_rfl) ?_
   change wpAny _ _ _ _ _ _ _ wr.drew
   refine wpAny_take (i := 0) (oi := { dst := some 12, op := Op.fieldAddr 25 (Operand.tmp 3) 1, type := 0, pos := "pack.go:64", after := #[], guard := none }) (v := ?_) rfl (by kernel_rfl) (by kernel_rfl) (by kernel_rfl) (fun _ _ _ h => h) (Or.inl ⟨by rfl, ?_⟩) ?_
   rotate_left
   ·intro w9
    first | (go_simp;done) | (go_simp;with_reducible rfl)
   try simp only [Act.put,List.setIfInBounds_toArray,List.set_cons_zero,List.set_cons_succ]
   refine wpAny_take (i := 2) (oi := { dst := some 14, op := Op.move (Operand.tmp 0), type := 198, pos := "pack.go:64", after := #[], guard := none }) (v := ?_) rfl (by kernel_rfl) (by kernel_rfl) (by kernel_rfl) (fun _ _ _ h => h) (Or.inl ⟨by rfl, ?_⟩) ?_
   rotate_left
   ·intro w9
    first | (go_simp;done) | (go_simp;with_reducible rfl)
   try simp only [Act.put,List.setIfInBounds_toArray,List.set_cons_zero,List.set_cons_succ]
   refine wpAny_ready (rs:=[1,3]) (by kernel_rfl) (by simp) ?_
   refine AllReady.cons (o := { dst := some 13, op := Op.load 23 (Operand.tmp 12), type := 23, pos := "pack.go:64", after := #[{ on := 0, ground := Ground.data }], guard := none }) rfl (fun K hK => ?_) ?_
   ·have HK:=hidden hK
    clear hK
    go_simp
    refine HK.out _ _ ?_
    clear HK K
    try simp only [Act.put,List.setIfInBounds_toArray,List.set_cons_zero,List.set_cons_succ]
    refine wpAny_ready (rs:=[3]) (by kernel_rfl) (by simp) ?_
    refine AllReady.cons (o := { dst := some 15, op := Op.call { callee := Callee.value (Operand.func 179), args := #[Operand.tmp 14], argTypes := #[198] }, type := 81, pos := "pack.go:64", after := #[{ on := 2, ground := Ground.data }], guard := none }) rfl (fun K hK => ?_) ?_
    ·have HK:=hidden hK
     clear hK
     go_simp
     refine (HCL.out 1).mono ?_
     rintro e w6 ⟨y0,y1,y2,y3,b6,f6,rfl,hy,hm6,hr6,o6,hs6,hkk,hkk2⟩
     have HY:=hidden hy
     have HM6:=hidden hm6
     have HR6:=hidden hr6
     have HO6:=hidden o6
     clear hy hm6 hr6 o6
     go_wp2_with fail
     refine HK.out _ _ ?_
     clear HK K
     try simp only [Act.put,List.setIfInBounds_toArray,List.set_cons_zero,List.set_cons_succ]
     refine wpAny_ready (rs:=[4]) (by kernel_rfl) (by simp) ?_
     refine AllReady.cons (o := { dst := some 16, op := Op.buildSlice 23 1 #[(0, Operand.tmp 15)], type := 23, pos := "pack.go:64", after := #[{ on := 3, ground := Ground.data }], guard := none }) rfl (fun K hK => ?_) ?_
     ·have HK:=hidden hK
      clear hK
      go_simp
      refine HK.out _ _ ?_
      clear HK K
      try simp only [Act.put,List.setIfInBounds_toArray,List.set_cons_zero,List.set_cons_succ]
      refine wpAny_ready (rs:=[5]) (by kernel_rfl) (by simp) ?_
      refine AllReady.cons (o := { dst := some 17, op := Op.call { callee := Callee.builtin Builtin.append, args := #[Operand.tmp 13, Operand.tmp 16], argTypes := #[23, 23] }, type := 23, pos := "pack.go:64", after := #[{ on := 1, ground := Ground.data }, { on := 4, ground := Ground.data }, { on := 3, ground := Ground.chain }], guard := none }) rfl (fun K hK => ?_) ?_
      ·have HK:=hidden hK
       clear hK
       refine step_append_f (by rfl) _ _ (by rfl) (w.heap.size+2) w6.heap.size _ _ x [(y0,y1,y2,y3)] (by rfl) ?_ (by rfl) ?_ ?_ ?_ ?_ ?_
       ·exact HO6.out.kept (below_one _ _)
       ·exact lit_one w6 (y0,y1,y2,y3)
       ·exact Nat.zero_lt_succ _
       ·exact HLN.out _
       ·exact le_alloc hs6 _
       intro v7 w7 o7 b7
       obtain ⟨a7,cap7,rfl,hm7,hkk7,z1⟩:=HAP.out _ _ _ _ _ _ (HM6.out.kept ((Below.refl _ _).alloc hs6 _)) o7 b7
       have HO7:=hidden o7
       have HM7:=hidden hm7
       clear o7 b7 hm7
       refine HK.out _ _ ?_
       clear HK K
       try simp only [Act.put,List.setIfInBounds_toArray,List.set_cons_zero,List.set_cons_succ]
       refine wpAny_ready (rs:=[6]) (by kernel_rfl) (by simp) ?_
       refine AllReady.cons (o := { dst := some 18, op := Op.fieldAddr 25 (Operand.tmp 3) 1, type := 0, pos := "pack.go:64", after := #[{ on := 0, ground := Ground.phase }, { on := 1, ground := Ground.phase }, { on := 2, ground := Ground.phase }, { on := 3, ground := Ground.phase }, { on := 4, ground := Ground.phase }, { on := 5, ground := Ground.phase }], guard := none }) rfl (fun K hK => ?_) ?_
       ·have HK:=hidden hK
        clear hK
        go_simp
        refine HK.out _ _ ?_
        clear HK K
        try simp only [Act.put,List.setIfInBounds_toArray,List.set_cons_zero,List.set_cons_succ]
        refine wpAny_ready (rs:=[7]) (by kernel_rfl) (by simp) ?_
        refine AllReady.cons (o := { dst := none, op := Op.store 23 (Operand.tmp 18) (Operand.tmp 17), type := 0, pos := "pack.go:64", after := #[{ on := 6, ground := Ground.data }, { on := 5, ground := Ground.data }, { on := 5, ground := Ground.chain }, { on := 0, ground := Ground.phase }, { on := 1, ground := Ground.phase }, { on := 2, ground := Ground.phase }, { on := 3, ground := Ground.phase }, { on := 4, ground := Ground.phase }, { on := 5, ground := Ground.phase }], guard := none }) rfl (fun K hK => ?_) ?_
        ·have HK:=hidden hK
         clear hK
         go_simp
         refine HK.out _ _ ?_
         clear HK K
         try simp only [Act.put,List.setIfInBounds_toArray,List.set_cons_zero,List.set_cons_succ]
         refine wpAny_done (by kernel_rfl) ?_ _
         go_wp2_with fail
         exact ⟨⟨k+1,x++[(y0,y1,y2,y3)],b6,f6,a7,cap7,by omega,rfl,HM7.out.set1 (.slice a7 (k+1) cap7),own_set1 HO7.out (by omega) _ _,by rw [List.length_append,List.length_singleton,HXL.out],fun y hy=>(List.mem_append.1 hy).elim (HOK.out y) (fun h=>by rw [List.mem_singleton] at h;rw [h];exact HY.out),rds_flds HRK.out HR6.out⟩,by simp only [intOf];omega⟩
        exact AllReady.nil
       exact AllReady.nil
      exact AllReady.nil
     exact AllReady.nil
    exact AllReady.nil
   refine AllReady.cons (o := { dst := some 15, op := Op.call { callee := Callee.value (Operand.func 179), args := #[Operand.tmp 14], argTypes := #[198] }, type := 81, pos := "pack.go:64", after := #[{ on := 2, ground := Ground.data }], guard := none }) rfl (fun K hK => ?_) ?_
   ·have HK:=hidden hK
    clear hK
    go_simp
    refine (HCL.out 1).mono ?_
    rintro e w6 ⟨y0,y1,y2,y3,b6,f6,rfl,hy,hm6,hr6,o6,hs6,hkk,hkk2⟩
    have HY:=hidden hy
    have HM6:=hidden hm6
    have HR6:=hidden hr6
    have HO6:=hidden o6
    clear hy hm6 hr6 o6
    go_wp2_with fail
    refine HK.out _ _ ?_
    clear HK K
    try simp only [Act.put,List.setIfInBounds_toArray,List.set_cons_zero,List.set_cons_succ]
    refine wpAny_ready (rs:=[1,4]) (by kernel_rfl) (by simp) ?_
    refine AllReady.cons (o := { dst := some 13, op := Op.load 23 (Operand.tmp 12), type := 23, pos := "pack.go:64", after := #[{ on := 0, ground := Ground.data }], guard := none }) rfl (fun K hK => ?_) ?_
    ·have HK:=hidden hK
     clear hK
     go_simp
     refine HK.out _ _ ?_
     clear HK K
     try simp only [Act.put,List.setIfInBounds_toArray,List.set_cons_zero,List.set_cons_succ]
     refine wpAny_ready (rs:=[4]) (by kernel_rfl) (by simp) ?_
     refine AllReady.cons (o := { dst := some 16, op := Op.buildSlice 23 1 #[(0, Operand.tmp 15)], type := 23, pos := "pack.go:64", after := #[{ on := 3, ground := Ground.data }], guard := none }) rfl (fun K hK => ?_) ?_
     ·have HK:=hidden hK
      clear hK
      go_simp
      refine HK.out _ _ ?_
      clear HK K
      try simp only [Act.put,List.setIfInBounds_toArray,List.set_cons_zero,List.set_cons_succ]
      refine wpAny_ready (rs:=[5]) (by kernel_rfl) (by simp) ?_
      refine AllReady.cons (o := { dst := some 17, op := Op.call { callee := Callee.builtin Builtin.append, args := #[Operand.tmp 13, Operand.tmp 16], argTypes := #[23, 23] }, type := 23, pos := "pack.go:64", after := #[{ on := 1, ground := Ground.data }, { on := 4, ground := Ground.data }, { on := 3, ground := Ground.chain }], guard := none }) rfl (fun K hK => ?_) ?_
      ·have HK:=hidden hK
       clear hK
       refine step_append_f (by rfl) _ _ (by rfl) (w.heap.size+2) w6.heap.size _ _ x [(y0,y1,y2,y3)] (by rfl) ?_ (by rfl) ?_ ?_ ?_ ?_ ?_
       ·exact HO6.out.kept (below_one _ _)
       ·exact lit_one w6 (y0,y1,y2,y3)
       ·exact Nat.zero_lt_succ _
       ·exact HLN.out _
       ·exact le_alloc hs6 _
       intro v7 w7 o7 b7
       obtain ⟨a7,cap7,rfl,hm7,hkk7,z1⟩:=HAP.out _ _ _ _ _ _ (HM6.out.kept ((Below.refl _ _).alloc hs6 _)) o7 b7
       have HO7:=hidden o7
       have HM7:=hidden hm7
       clear o7 b7 hm7
       refine HK.out _ _ ?_
       clear HK K
       try simp only [Act.put,List.setIfInBounds_toArray,List.set_cons_zero,List.set_cons_succ]
       refine wpAny_ready (rs:=[6]) (by kernel_rfl) (by simp) ?_
       refine AllReady.cons (o := { dst := some 18, op := Op.fieldAddr 25 (Operand.tmp 3) 1, type := 0, pos := "pack.go:64", after := #[{ on := 0, ground := Ground.phase }, { on := 1, ground := Ground.phase }, { on := 2, ground := Ground.phase }, { on := 3, ground := Ground.phase }, { on := 4, ground := Ground.phase }, { on := 5, ground := Ground.phase }], guard := none }) rfl (fun K hK => ?_) ?_
       ·have HK:=hidden hK
        clear hK
        go_simp
        refine HK.out _ _ ?_
        clear HK K
        try simp only [Act.put,List.setIfInBounds_toArray,List.set_cons_zero,List.set_cons_succ]
        refine wpAny_ready (rs:=[7]) (by kernel_rfl) (by simp) ?_
        refine AllReady.cons (o := { dst := none, op := Op.store 23 (Operand.tmp 18) (Operand.tmp 17), type := 0, pos := "pack.go:64", after := #[{ on := 6, ground := Ground.data }, { on := 5, ground := Ground.data }, { on := 5, ground := Ground.chain }, { on := 0, ground := Ground.phase }, { on := 1, ground := Ground.phase }, { on := 2, ground := Ground.phase }, { on := 3, ground := Ground.phase }, { on := 4, ground := Ground.phase }, { on := 5, ground := Ground.phase }], guard := none }) rfl (fun K hK => ?_) ?_
        ·have HK:=hidden hK
         clear hK
         go_simp
         refine HK.out _ _ ?_
         clear HK K
         try simp only [Act.put,List.setIfInBounds_toArray,List.set_cons_zero,List.set_cons_succ]
         refine wpAny_done (by kernel_rfl) ?_ _
         go_wp2_with fail
         exact ⟨⟨k+1,x++[(y0,y1,y2,y3)],b6,f6,a7,cap7,by omega,rfl,HM7.out.set1 (.slice a7 (k+1) cap7),own_set1 HO7.out (by omega) _ _,by rw [List.length_append,List.length_singleton,HXL.out],fun y hy=>(List.mem_append.1 hy).elim (HOK.out y) (fun h=>by rw [List.mem_singleton] at h;rw [h];exact HY.out),rds_flds HRK.out HR6.out⟩,by simp only [intOf];omega⟩
        exact AllReady.nil
       exact AllReady.nil
      exact AllReady.nil
     exact AllReady.nil
    refine AllReady.cons (o := { dst := some 16, op := Op.buildSlice 23 1 #[(0, Operand.tmp 15)], type := 23, pos := "pack.go:64", after := #[{ on := 3, ground := Ground.data }], guard := none }) rfl (fun K hK => ?_) ?_
    ·have HK:=hidden hK
     clear hK
     go_simp
     refine HK.out _ _ ?_
     clear HK K
     try simp only [Act.put,List.setIfInBounds_toArray,List.set_cons_zero,List.set_cons_succ]
     refine wpAny_ready (rs:=[1]) (by kernel_rfl) (by simp) ?_
     refine AllReady.cons (o := { dst := some 13, op := Op.load 23 (Operand.tmp 12), type := 23, pos := "pack.go:64", after := #[{ on := 0, ground := Ground.data }], guard := none }) rfl (fun K hK => ?_) ?_
     ·have HK:=hidden hK
      clear hK
      go_simp
      refine HK.out _ _ ?_
      clear HK K
      try simp only [Act.put,List.setIfInBounds_toArray,List.set_cons_zero,List.set_cons_succ]
      refine wpAny_ready (rs:=[5]) (by kernel_rfl) (by simp) ?_
      refine AllReady.cons (o := { dst := some 17, op := Op.call { callee := Callee.builtin Builtin.append, args := #[Operand.tmp 13, Operand.tmp 16], argTypes := #[23, 23] }, type := 23, pos := "pack.go:64", after := #[{ on := 1, ground := Ground.data }, { on := 4, ground := Ground.data }, { on := 3, ground := Ground.chain }], guard := none }) rfl (fun K hK => ?_) ?_
      ·have HK:=hidden hK
       clear hK
       refine step_append_f (by rfl) _ _ (by rfl) (w.heap.size+2) w6.heap.size _ _ x [(y0,y1,y2,y3)] (by rfl) ?_ (by rfl) ?_ ?_ ?_ ?_ ?_
       ·exact HO6.out.kept (below_one _ _)
       ·exact lit_one w6 (y0,y1,y2,y3)
       ·exact Nat.zero_lt_succ _
       ·exact HLN.out _
       ·exact le_alloc hs6 _
       intro v7 w7 o7 b7
       obtain ⟨a7,cap7,rfl,hm7,hkk7,z1⟩:=HAP.out _ _ _ _ _ _ (HM6.out.kept ((Below.refl _ _).alloc hs6 _)) o7 b7
       have HO7:=hidden o7
       have HM7:=hidden hm7
       clear o7 b7 hm7
       refine HK.out _ _ ?_
       clear HK K
       try simp only [Act.put,List.setIfInBounds_toArray,List.set_cons_zero,List.set_cons_succ]
       refine wpAny_ready (rs:=[6]) (by kernel_rfl) (by simp) ?_
       refine AllReady.cons (o := { dst := some 18, op := Op.fieldAddr 25 (Operand.tmp 3) 1, type := 0, pos := "pack.go:64", after := #[{ on := 0, ground := Ground.phase }, { on := 1, ground := Ground.phase }, { on := 2, ground := Ground.phase }, { on := 3, ground := Ground.phase }, { on := 4, ground := Ground.phase }, { on := 5, ground := Ground.phase }], guard := none }) rfl (fun K hK => ?_) ?_
       ·have HK:=hidden hK
        clear hK
        go_simp
        refine HK.out _ _ ?_
        clear HK K
        try simp only [Act.put,List.setIfInBounds_toArray,List.set_cons_zero,List.set_cons_succ]
        refine wpAny_ready (rs:=[7]) (by kernel_rfl) (by simp) ?_
        refine AllReady.cons (o := { dst := none, op := Op.store 23 (Operand.tmp 18) (Operand.tmp 17), type := 0, pos := "pack.go:64", after := #[{ on := 6, ground := Ground.data }, { on := 5, ground := Ground.data }, { on := 5, ground := Ground.chain }, { on := 0, ground := Ground.phase }, { on := 1, ground := Ground.phase }, { on := 2, ground := Ground.phase }, { on := 3, ground := Ground.phase }, { on := 4, ground := Ground.phase }, { on := 5, ground := Ground.phase }], guard := none }) rfl (fun K hK => ?_) ?_
        ·have HK:=hidden hK
         clear hK
         go_simp
         refine HK.out _ _ ?_
         clear HK K
         try simp only [Act.put,List.setIfInBounds_toArray,List.set_cons_zero,List.set_cons_succ]
         refine wpAny_done (by kernel_rfl) ?_ _
         go_wp2_with fail
         exact ⟨⟨k+1,x++[(y0,y1,y2,y3)],b6,f6,a7,cap7,by omega,rfl,HM7.out.set1 (.slice a7 (k+1) cap7),own_set1 HO7.out (by omega) _ _,by rw [List.length_append,List.length_singleton,HXL.out],fun y hy=>(List.mem_append.1 hy).elim (HOK.out y) (fun h=>by rw [List.mem_singleton] at h;rw [h];exact HY.out),rds_flds HRK.out HR6.out⟩,by simp only [intOf];omega⟩
        exact AllReady.nil
       exact AllReady.nil
      exact AllReady.nil
     exact AllReady.nil
    exact AllReady.nil
   exact AllReady.nil
  ·obtain ⟨⟨c0,c1⟩,⟨z0,z1⟩,⟨d0,d1⟩,⟨y0,y1⟩⟩:=hsch.facts
   obtain rfl:k=n:=by omega
   have hlt':¬ (k:Int)<(k:Int):=by omega
   clear hsch
   go_wp2_with fail
   obtain ⟨e1,e2⟩:=HM4.out.done (.int .u32 (i:Int)) (.slice a k cap)
   refine bodyPost_ret (v:=.agg #[.int .u32 (i:Int),.slice a k cap]) (by simp [results,Tryz.results139,go_sem,d0,d1]) rfl ?_
   exact ⟨i,x,_,bk,fk,rfl,(own_set2 HO.out (by omega) _ _).low (by omega),by have:=HI.out;omega,by have:=HXL.out;omega,HOK.out,e1,rds_sch HR1.out HR2.out HRK.out,e2⟩
  -- END
end Go.Proofs.YtpljdjmpamjkhaaGreatDoor
