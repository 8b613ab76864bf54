import Derived.Test.YtpljdjmpamjkhaaGreatDoorXbg
set_option linter.unusedVariables false
set_option linter.unusedSimpArgs false
set_option maxRecDepth 100000
set_option maxHeartbeats 4000000
namespace Go.Proofs.YtpljdjmpamjkhaaGreatDoor
open Go.RowKit Go.Lib
def Sch(w:World)(p:Nat)(W:World)(b:List Nat)(f:Nat)(x0 x1:Value):Prop :=
 St 200 W p b f/\p<w.heap.size/\W.heap[w.heap.size]?=some (.cells #[.int .u32 0,.slice none 0 0] 25 (0,0)) /\
 W.heap[w.heap.size+1]?=some (.cells #[x0,x1] 25 (0,0))/\Fr p w.heap.size w W
theorem Sch.begin{w:World}{p f:Nat}{b:List Nat}(h:St 200 w p b f) :
  Sch w p ((w.alloc (.cells #[.int .u32 0,.slice none 0 0] 25)).alloc (.cells #[.int .u32 0,.slice none 0 0] 25)) b f (.int .u32 0) (.slice none 0 0):=by
 have hbW:=((jdv w.heap.size w).alloc (jdw _) (.cells #[.int .u32 0,.slice none 0 0] 25)).alloc (by rw[jdx];omega) (.cells #[.int .u32 0,.slice none 0 0] 25);have ct:(w.alloc (.cells #[.int .u32 0,.slice none 0 0] 25)).heap.size=w.heap.size+1:=jdx _ _;have aH:=am (w.alloc (.cells #[.int .u32 0,.slice none 0 0] 25)) (.cells #[.int .u32 0,.slice none 0 0] 25);have hh0:=jdW w (.cells #[.int .u32 0,.slice none 0 0] 25);have hh:=jdW (w.alloc (.cells #[.int .u32 0,.slice none 0 0] 25)) (.cells #[.int .u32 0,.slice none 0 0] 25);rw[ct]at hh;exact⟨h.kept hbW h.lt,h.lt,(aH.block w.heap.size (by omega)).trans hh0,hh,Fr.of_below hbW⟩
theorem Sch.call{w W W':World}{p f f':Nat}{b b':List Nat}{x0 x1:Value}(h:Sch w p W b f x0 x1)(hs:St 200 W' p b' f')(hf:Fr p W.heap.size W W'):Sch w p W' b' f' x0 x1:=by
 obtain⟨h1,h2,h3,h4,h5⟩:=h;have l3:=(Array.getElem?_eq_some_iff.1 h3).1;have l4:=(Array.getElem?_eq_some_iff.1 h4).1;exact⟨hs,h2,(hf.block _ l3 (by omega)).trans h3,(hf.block _ l4 (by omega)).trans h4,h5.trans (hf.mono (by omega))⟩
theorem Sch.size{w W:World}{p f:Nat}{b:List Nat}{x0 x1:Value}(h:Sch w p W b f x0 x1):w.heap.size+2<=W.heap.size:=(Array.getElem?_eq_some_iff.1 h.2.2.2.1).1
theorem Sch.kept{w W W':World}{p f:Nat}{b:List Nat}{x0 x1:Value}(h:Sch w p W b f x0 x1)(hb:Below (w.heap.size+2) W W'):Sch w p W' b f x0 x1:=by
 obtain⟨h1,h2,h3,h4,h5⟩:=h;exact⟨h1.kept hb (by omega),h2,(hb.block _ (by omega)).trans h3,(hb.block _ (by omega)).trans h4,h5.then (hb.mono (by omega))⟩
theorem Sch.facts{w W:World}{p f:Nat}{b:List Nat}{x0 x1:Value}(h:Sch w p W b f x0 x1) :
  (W.cell? ⟨w.heap.size+1,0,none⟩=some x0/\W.cell? ⟨w.heap.size+1,1,none⟩=some x1) /\
  (W.frozen? ⟨w.heap.size+1,0,none⟩=false/\W.frozen? ⟨w.heap.size+1,1,none⟩=false) /\
  (W.cell? ⟨w.heap.size,0,none⟩=some (.int .u32 0)/\W.cell? ⟨w.heap.size,1,none⟩=some (.slice none 0 0)) /\
  (W.frozen? ⟨w.heap.size,0,none⟩=false/\W.frozen? ⟨w.heap.size,1,none⟩=false):=by
 obtain⟨h1,h2,h3,h4,h5⟩:=h;refine⟨⟨?_,?_⟩,⟨?_,?_⟩,⟨?_,?_⟩,⟨?_,?_⟩⟩<;>first | (rw[ay h4];rfl) | (rw[ay h3];rfl) | (simp[World.frozen?,h4];done) | (simp[World.frozen?,h3];done)
theorem Sch.keep{w W:World}{p f:Nat}{b:List Nat}{x0 x1:Value}(h:Sch w p W b f x0 x1)(j:Nat)(v:Value) :
  St 200 (W.setCell ⟨w.heap.size+1,j,none⟩ v) p b f/\(W.setCell ⟨w.heap.size+1,j,none⟩ v).heap[w.heap.size]?=some (.cells #[.int .u32 0,.slice none 0 0] 25 (0,0))/\Fr p w.heap.size w (W.setCell ⟨w.heap.size+1,j,none⟩ v):=by
 obtain⟨h1,h2,h3,h4,h5⟩:=h;have hb:Below (w.heap.size+1) W (W.setCell ⟨w.heap.size+1,j,none⟩ v):=(jdv (w.heap.size+1) W).setCell (show w.heap.size+1<=w.heap.size+1 from jdw _) _;exact⟨h1.kept hb (by omega),(hb.block _ (by omega)).trans h3,h5.then (hb.mono (by omega))⟩
theorem Sch.set0{w W:World}{p f:Nat}{b:List Nat}{x0 x1:Value}(h:Sch w p W b f x0 x1)(v:Value):Sch w p (W.setCell ⟨w.heap.size+1,0,none⟩ v) b f v x1 :=
 ⟨(h.keep 0 v).1,h.2.1,(h.keep 0 v).2.1,by rw[cK h.2.2.2.1];rfl,(h.keep 0 v).2.2⟩
theorem Sch.set1{w W:World}{p f:Nat}{b:List Nat}{x0 x1:Value}(h:Sch w p W b f x0 x1)(v:Value):Sch w p (W.setCell ⟨w.heap.size+1,1,none⟩ v) b f x0 v :=
 ⟨(h.keep 1 v).1,h.2.1,(h.keep 1 v).2.1,by rw[cK h.2.2.2.1];rfl,(h.keep 1 v).2.2⟩
theorem Sch.done{w W:World}{p f:Nat}{b:List Nat}{x0 x1:Value}(h:Sch w p W b f x0 x1)(y0 y1:Value) :
  St 200 ((W.setCell ⟨w.heap.size,0,none⟩ y0).setCell ⟨w.heap.size,1,none⟩ y1) p b f/\Fr p w.heap.size w ((W.setCell ⟨w.heap.size,0,none⟩ y0).setCell ⟨w.heap.size,1,none⟩ y1):=by
 obtain⟨h1,h2,h3,h4,h5⟩:=h;have hb:=qd (jdv w.heap.size W) (jdw w.heap.size) y0 y1;exact⟨h1.kept hb h2,h5.then hb⟩
theorem xn{k:Nat}{b b1 b2:List Nat}{f f1 f2:Nat}{x:List Fd}{y:Fd}(h1:Rds (kU k) b f x b1 f1)(h2:Rds uo b1 f1 y b2 f2):Rds (kU (k+1)) b f (x++[y]) b2 f2 :=
 h1.bind (h2.bind (Rds.pure (x++[y]) b2 f2))
def XC(p:Nat)(b:List Nat)(f:Nat)(w:World)(r:Ending)(w':World):Prop :=
 ∃(id:Nat) (l:List Fd) (v:Value) (b':List Nat) (f':Nat),r=.returned (.agg #[.int .u32 (id:Int),v])/\fD w' w.heap.size v l/\id<4294967296/\l.length<=8/\(∀ y∈l,Okf y/\y.2.1.size<=16) /\
  St 200 w' p b' f'/\Rds CL b f (id,l) b' f'/\Fr p w.heap.size w w'
theorem XD{b b1 b2 b3:List Nat}{f f1 f2 f3 i n:Nat}{l:List Fd}(h1:Rds (ir 4294967295) b f i b1 f1)(h2:Rds (ir 8) b1 f1 n b2 f2)(h3:Rds (kU n) b2 f2 l b3 f3):Rds CL b f (i,l) b3 f3 :=
 h1.bind (h2.bind (h3.bind (Rds.pure (i,l) b3 f3)))
theorem xo{w1:World}{B p:Nat}{v:Value}{l:List Fd}(h:fD w1 B v l)(hp:p<B)(j:Nat)(x:Value):fD (w1.setCell ⟨p,j,none⟩ x) B v l :=
 Fr.own ((Fr.refl p w1.heap.size w1).set j x) h hp
theorem JJ{w:World}{p f:Nat}{b:List Nat}(h:St 200 w p b f) :
  Calls Tryz.prog 139 #[.pointer (some ⟨p,0,none⟩)] w (XC p b f w):=by
 have HM:=ae (Sch.begin h);have ct:(w.alloc (.cells #[.int .u32 0,.slice none 0 0] 25)).heap.size=w.heap.size+1:=jdx _ _;clear h;generalize hW:(w.alloc (.cells #[.int .u32 0,.slice none 0 0] 25)).alloc (.cells #[.int .u32 0,.slice none 0 0] 25)=W at *;go_enter Tryz.func139,Tryz.ntmps139
 go_wp2_with fail;try rw[hW]
 clear hW ct;refine(iY HM.o.1 4294967295 (by omega)).mono ?_;rintro e w1 ⟨i,b1,f1,rfl,hi,ea,Am,dv⟩;have Qa:=ae (HM.o.call ea dv);have sg:=ae Am;have HI:=ae hi;have hi':i<4294967296:=by omega
 obtain⟨⟨c0,c1⟩,⟨z0,z1⟩,_,_⟩:=Qa.o.facts;clear ea Am dv hi HM;go_wp2_with fail;have KB:=ae (Qa.o.set0 (.int .u32 (i:Int)));clear Qa c0 c1 z0 z1;generalize hX:w1.setCell ⟨w.heap.size+1,0,none⟩ (.int .u32 (i:Int))=X at *;try rw[hX]
 clear hX;refine(iY KB.o.1 8 (by omega)).mono ?_;rintro e w2 ⟨n,b2,f2,rfl,hn,dN,BT,dD⟩;have UO:=ae (KB.o.call dN dD);have jb:=ae BT;clear dN BT dD KB;go_wp2_with fail;go_loopw [10] (fun i' wr=>∃(k:Nat) (x:List Fd) (bk:List Nat) (fk:Nat) (a:Option Addr) (cap:Nat),k<=n/\i'=.int .u64 (k:Int)/\Sch w p wr bk fk (.int .u32 (i:Int)) (.slice a k cap)/\fD wr (w.heap.size+2) (.slice a k cap) x/\x.length=k/\(∀ y∈x,Okf y/\y.2.1.size<=16)/\Rds (kU k) b2 f2 x bk fk) (fun i' _=>n-(intOf i').toNat)
 case atStart=>exact⟨0,[],b2,f2,none,0,by omega,rfl,UO.o,fD.nil _ _,rfl,(fun _ h=>absurd h (by simp)),Rds.pure [] b2 f2⟩
 case round =>
  obtain⟨k,x,bk,fk,a,cap,hk,rfl,Qj,aA,Zl,jx,hrk⟩:=hrel;have PO:=ae Qj;have HO:=ae aA;have HXL:=ae Zl;have LS:=ae jx;have HRK:=ae hrk;clear aA Zl jx hrk;by_cases aB:k<n
  ·have hlt':(k:Int)<(n:Int):=by omega
   have hwk:IntKind.u64.wrap ((k:Int)+1)=((k+1:Nat):Int):=by rw[jd0];omega
   obtain⟨⟨c0,c1⟩,⟨z0,z1⟩,_,_⟩:=Qj.facts;have qn:=ae Qj.size;clear Qj
   have qr:jfp (∀ m,Calls Tryz.prog 179 #[.pointer (some ⟨p,0,none⟩)] (wr.drewN m) fun e w'=>∃(y0:Nat) (y1:ByteArray) (y2:Nat) (y3:Bool) (b':List Nat) (f':Nat),e=.returned (.agg #[.int .u32 (y0:Int),.string y1,.int .u8 (y2:Int),.bool y3])/\(Okf (y0,y1,y2,y3)/\y1.size<=16)/\Sch w p w' b' f' (.int .u32 (i:Int)) (.slice a k cap)/\Rds uo bk fk (y0,y1,y2,y3) b' f'/\fD w' (w.heap.size+2) (.slice a k cap) x/\w.heap.size+2<=w'.heap.size/\w'.cell? ⟨w.heap.size+1,1,none⟩=some (.slice a k cap)/\(w'.alloc (.cells #[.int .u32 (y0:Int),.string y1,.int .u8 (y2:Int),.bool y3] 81)).cell? ⟨w.heap.size+1,1,none⟩=some (.slice a k cap)):=ae (fun m=>by
    have nt:Below wr.heap.size wr (wr.drewN m):=ap (jdv wr.heap.size wr) m;refine(Pe (PO.o.1.kept nt PO.o.1.lt)).mono ?_;rintro e w' ⟨⟨y0,y1,y2,y3⟩,b',f',rfl,hy,hs',hr',hf'⟩;have dD:Fr p wr.heap.size wr w':=(Fr.of_below nt).trans (hf'.mono nt.size);have hm:=PO.o.call hs' dD;obtain⟨⟨d0,d1⟩,⟨e0,e1⟩,_,_⟩:=hm.facts;have Qd:=PO.o.2.1;exact⟨y0,y1,y2,y3,b',f',rfl,hy,hm,hr',Fr.own dD HO.o (by omega),hm.size,d1,((am w' _).cell (p:=⟨w.heap.size+1,1,none⟩) (by have:=hm.size;show w.heap.size+1<_;omega)).trans d1⟩)
   have HAP:jfp (∀ y b' f' w6 w7 v7,Sch w p w6 b' f' (.int .u32 (i:Int)) (.slice a k cap)->fD w7 (w.heap.size+2) v7 (x++[y])->Below (w.heap.size+2) w6 w7->∃ a7 cap7,v7=.slice a7 (k+1) cap7/\Sch w p w7 b' f' (.int .u32 (i:Int)) (.slice a k cap)/\(w7.cell? ⟨w.heap.size+1,1,none⟩=some (.slice a k cap)/\w7.frozen? ⟨w.heap.size+1,1,none⟩=false)):=ae (fun y b' f' w6 w7 v7 hm o7 ji=>by
    obtain⟨a7,cap7,hv,_,_⟩:=aM o7;rw[jdy,jd6,HXL.o]at hv;have Vo:=hm.kept ji;obtain⟨⟨d0,d1⟩,⟨e0,e1⟩,_,_⟩:=Vo.facts;exact⟨a7,cap7,hv,Vo,d1,e1⟩)
   have LO:jfp (∀ y:Fd,x.length+[y].length<=100000):=ae (fun y=>by rw[jd6,HXL.o];omega);clear c0 z0 z1;go_wp2_with fail;refine wp_region_any (by kernel_rfl) ?_;change wpAny _ _ _ _ _ _ _ wr.drew
   refine wpAny_take (i := 0) (oi := { dst := some 12, op := Op.fieldAddr 25 (Operand.tmp 3) 1, type := 0, pos := "pack.go:64", after := #[], guard := none }) (v := ?_) rfl (by kernel_rfl) (by kernel_rfl) (by kernel_rfl) (fun _ _ _ h => h) (Or.inl ⟨by rfl, ?_⟩) ?_;rotate_left
   ·intro w9
    first | (go_simp;done) | (go_simp;with_reducible rfl)
   try simp only[Act.put,jdJ,jdH,jdI]
   refine wpAny_take (i := 2) (oi := { dst := some 14, op := Op.move (Operand.tmp 0), type := 198, pos := "pack.go:64", after := #[], guard := none }) (v := ?_) rfl (by kernel_rfl) (by kernel_rfl) (by kernel_rfl) (fun _ _ _ h => h) (Or.inl ⟨by rfl, ?_⟩) ?_;rotate_left
   ·intro w9
    first | (go_simp;done) | (go_simp;with_reducible rfl)
   try simp only[Act.put,jdJ,jdH,jdI]
   refine wpAny_ready (rs:=[1,3]) (by kernel_rfl) (by simp) ?_;refine AllReady.cons (o := { dst := some 13, op := Op.load 23 (Operand.tmp 12), type := 23, pos := "pack.go:64", after := #[{ on := 0, ground := Ground.data }], guard := none }) rfl (fun K hK => ?_) ?_
   ·have HK:=ae hK
    clear hK;go_simp
    refine HK.o _ _ ?_;clear HK K;try simp only[Act.put,jdJ,jdH,jdI]
    refine wpAny_ready (rs:=[3]) (by kernel_rfl) (by simp) ?_;refine AllReady.cons (o := { dst := some 15, op := Op.call { callee := Callee.value (Operand.func 179), args := #[Operand.tmp 14], argTypes := #[198] }, type := 81, pos := "pack.go:64", after := #[{ on := 2, ground := Ground.data }], guard := none }) rfl (fun K hK => ?_) ?_
    ·have HK:=ae hK
     clear hK;go_simp
     refine(qr.o 1).mono ?_;rintro e w6 ⟨y0,y1,y2,y3,b6,f6,rfl,hy,hm6,Vf,o6,xE,FV,hkk2⟩;have HY:=ae hy;have ZL:=ae hm6;have Gd:=ae Vf;have mT:=ae o6;clear hy hm6 Vf o6;go_wp2_with fail;refine HK.o _ _ ?_;clear HK K;try simp only[Act.put,jdJ,jdH,jdI]
     refine wpAny_ready (rs:=[4]) (by kernel_rfl) (by simp) ?_;refine AllReady.cons (o := { dst := some 16, op := Op.buildSlice 23 1 #[(0, Operand.tmp 15)], type := 23, pos := "pack.go:64", after := #[{ on := 3, ground := Ground.data }], guard := none }) rfl (fun K hK => ?_) ?_
     ·have HK:=ae hK
      clear hK;go_simp
      refine HK.o _ _ ?_;clear HK K;try simp only[Act.put,jdJ,jdH,jdI]
      refine wpAny_ready (rs:=[5]) (by kernel_rfl) (by simp) ?_;refine AllReady.cons (o := { dst := some 17, op := Op.call { callee := Callee.builtin Builtin.append, args := #[Operand.tmp 13, Operand.tmp 16], argTypes := #[23, 23] }, type := 23, pos := "pack.go:64", after := #[{ on := 1, ground := Ground.data }, { on := 4, ground := Ground.data }, { on := 3, ground := Ground.chain }], guard := none }) rfl (fun K hK => ?_) ?_
      ·have HK:=ae hK
       clear hK;refine lA (by rfl) _ _ (by rfl) (w.heap.size+2) w6.heap.size _ _ x [(y0,y1,y2,y3)] (by rfl) ?_ (by rfl) ?_ ?_ ?_ ?_ ?_
       ·exact mT.o.kept (am _ _)
       ·exact AW w6 (y0,y1,y2,y3)
       ·exact Nat.zero_lt_succ _
       ·exact LO.o _
       ·exact rx xE _
       intro v7 w7 o7 b7;obtain⟨a7,cap7,rfl,Vo,hkk7,z1⟩:=HAP.o _ _ _ _ _ _ (ZL.o.kept ((jdv _ _).alloc xE _)) o7 b7;have iD:=ae o7;have ZM:=ae Vo;clear o7 b7 Vo;refine HK.o _ _ ?_;clear HK K;try simp only[Act.put,jdJ,jdH,jdI]
       refine wpAny_ready (rs:=[6]) (by kernel_rfl) (by simp) ?_;refine AllReady.cons (o := { dst := some 18, op := Op.fieldAddr 25 (Operand.tmp 3) 1, type := 0, pos := "pack.go:64", after := #[{ on := 0, ground := Ground.phase }, { on := 1, ground := Ground.phase }, { on := 2, ground := Ground.phase }, { on := 3, ground := Ground.phase }, { on := 4, ground := Ground.phase }, { on := 5, ground := Ground.phase }], guard := none }) rfl (fun K hK => ?_) ?_
       ·have HK:=ae hK
        clear hK;go_simp
        refine HK.o _ _ ?_;clear HK K;try simp only[Act.put,jdJ,jdH,jdI]
        refine wpAny_ready (rs:=[7]) (by kernel_rfl) (by simp) ?_;refine AllReady.cons (o := { dst := none, op := Op.store 23 (Operand.tmp 18) (Operand.tmp 17), type := 0, pos := "pack.go:64", after := #[{ on := 6, ground := Ground.data }, { on := 5, ground := Ground.data }, { on := 5, ground := Ground.chain }, { on := 0, ground := Ground.phase }, { on := 1, ground := Ground.phase }, { on := 2, ground := Ground.phase }, { on := 3, ground := Ground.phase }, { on := 4, ground := Ground.phase }, { on := 5, ground := Ground.phase }], guard := none }) rfl (fun K hK => ?_) ?_
        ·have HK:=ae hK
         clear hK;go_simp
         refine HK.o _ _ ?_;clear HK K;try simp only[Act.put,jdJ,jdH,jdI]
         refine wpAny_done (by kernel_rfl) ?_ _;go_wp2_with fail;exact⟨⟨k+1,x++[(y0,y1,y2,y3)],b6,f6,a7,cap7,by omega,rfl,ZM.o.set1 (.slice a7 (k+1) cap7),xo iD.o (by omega) _ _,by rw[jdy,jd6,HXL.o],fun y hy=>(jd2.1 hy).elim (LS.o y) (fun h=>by rw[jef]at h;rw[h];exact HY.o),xn HRK.o Gd.o⟩,by simp only[intOf];omega⟩
        exact AllReady.nil
       exact AllReady.nil
      exact AllReady.nil
     exact AllReady.nil
    exact AllReady.nil
   refine AllReady.cons (o := { dst := some 15, op := Op.call { callee := Callee.value (Operand.func 179), args := #[Operand.tmp 14], argTypes := #[198] }, type := 81, pos := "pack.go:64", after := #[{ on := 2, ground := Ground.data }], guard := none }) rfl (fun K hK => ?_) ?_
   ·have HK:=ae hK
    clear hK;go_simp
    refine(qr.o 1).mono ?_;rintro e w6 ⟨y0,y1,y2,y3,b6,f6,rfl,hy,hm6,Vf,o6,xE,FV,hkk2⟩;have HY:=ae hy;have ZL:=ae hm6;have Gd:=ae Vf;have mT:=ae o6;clear hy hm6 Vf o6;go_wp2_with fail;refine HK.o _ _ ?_;clear HK K;try simp only[Act.put,jdJ,jdH,jdI]
    refine wpAny_ready (rs:=[1,4]) (by kernel_rfl) (by simp) ?_;refine AllReady.cons (o := { dst := some 13, op := Op.load 23 (Operand.tmp 12), type := 23, pos := "pack.go:64", after := #[{ on := 0, ground := Ground.data }], guard := none }) rfl (fun K hK => ?_) ?_
    ·have HK:=ae hK
     clear hK;go_simp
     refine HK.o _ _ ?_;clear HK K;try simp only[Act.put,jdJ,jdH,jdI]
     refine wpAny_ready (rs:=[4]) (by kernel_rfl) (by simp) ?_;refine AllReady.cons (o := { dst := some 16, op := Op.buildSlice 23 1 #[(0, Operand.tmp 15)], type := 23, pos := "pack.go:64", after := #[{ on := 3, ground := Ground.data }], guard := none }) rfl (fun K hK => ?_) ?_
     ·have HK:=ae hK
      clear hK;go_simp
      refine HK.o _ _ ?_;clear HK K;try simp only[Act.put,jdJ,jdH,jdI]
      refine wpAny_ready (rs:=[5]) (by kernel_rfl) (by simp) ?_;refine AllReady.cons (o := { dst := some 17, op := Op.call { callee := Callee.builtin Builtin.append, args := #[Operand.tmp 13, Operand.tmp 16], argTypes := #[23, 23] }, type := 23, pos := "pack.go:64", after := #[{ on := 1, ground := Ground.data }, { on := 4, ground := Ground.data }, { on := 3, ground := Ground.chain }], guard := none }) rfl (fun K hK => ?_) ?_
      ·have HK:=ae hK
       clear hK;refine lA (by rfl) _ _ (by rfl) (w.heap.size+2) w6.heap.size _ _ x [(y0,y1,y2,y3)] (by rfl) ?_ (by rfl) ?_ ?_ ?_ ?_ ?_
       ·exact mT.o.kept (am _ _)
       ·exact AW w6 (y0,y1,y2,y3)
       ·exact Nat.zero_lt_succ _
       ·exact LO.o _
       ·exact rx xE _
       intro v7 w7 o7 b7;obtain⟨a7,cap7,rfl,Vo,hkk7,z1⟩:=HAP.o _ _ _ _ _ _ (ZL.o.kept ((jdv _ _).alloc xE _)) o7 b7;have iD:=ae o7;have ZM:=ae Vo;clear o7 b7 Vo;refine HK.o _ _ ?_;clear HK K;try simp only[Act.put,jdJ,jdH,jdI]
       refine wpAny_ready (rs:=[6]) (by kernel_rfl) (by simp) ?_;refine AllReady.cons (o := { dst := some 18, op := Op.fieldAddr 25 (Operand.tmp 3) 1, type := 0, pos := "pack.go:64", after := #[{ on := 0, ground := Ground.phase }, { on := 1, ground := Ground.phase }, { on := 2, ground := Ground.phase }, { on := 3, ground := Ground.phase }, { on := 4, ground := Ground.phase }, { on := 5, ground := Ground.phase }], guard := none }) rfl (fun K hK => ?_) ?_
       ·have HK:=ae hK
        clear hK;go_simp
        refine HK.o _ _ ?_;clear HK K;try simp only[Act.put,jdJ,jdH,jdI]
        refine wpAny_ready (rs:=[7]) (by kernel_rfl) (by simp) ?_;refine AllReady.cons (o := { dst := none, op := Op.store 23 (Operand.tmp 18) (Operand.tmp 17), type := 0, pos := "pack.go:64", after := #[{ on := 6, ground := Ground.data }, { on := 5, ground := Ground.data }, { on := 5, ground := Ground.chain }, { on := 0, ground := Ground.phase }, { on := 1, ground := Ground.phase }, { on := 2, ground := Ground.phase }, { on := 3, ground := Ground.phase }, { on := 4, ground := Ground.phase }, { on := 5, ground := Ground.phase }], guard := none }) rfl (fun K hK => ?_) ?_
        ·have HK:=ae hK
         clear hK;go_simp
         refine HK.o _ _ ?_;clear HK K;try simp only[Act.put,jdJ,jdH,jdI]
         refine wpAny_done (by kernel_rfl) ?_ _;go_wp2_with fail;exact⟨⟨k+1,x++[(y0,y1,y2,y3)],b6,f6,a7,cap7,by omega,rfl,ZM.o.set1 (.slice a7 (k+1) cap7),xo iD.o (by omega) _ _,by rw[jdy,jd6,HXL.o],fun y hy=>(jd2.1 hy).elim (LS.o y) (fun h=>by rw[jef]at h;rw[h];exact HY.o),xn HRK.o Gd.o⟩,by simp only[intOf];omega⟩
        exact AllReady.nil
       exact AllReady.nil
      exact AllReady.nil
     exact AllReady.nil
    refine AllReady.cons (o := { dst := some 16, op := Op.buildSlice 23 1 #[(0, Operand.tmp 15)], type := 23, pos := "pack.go:64", after := #[{ on := 3, ground := Ground.data }], guard := none }) rfl (fun K hK => ?_) ?_
    ·have HK:=ae hK
     clear hK;go_simp
     refine HK.o _ _ ?_;clear HK K;try simp only[Act.put,jdJ,jdH,jdI]
     refine wpAny_ready (rs:=[1]) (by kernel_rfl) (by simp) ?_;refine AllReady.cons (o := { dst := some 13, op := Op.load 23 (Operand.tmp 12), type := 23, pos := "pack.go:64", after := #[{ on := 0, ground := Ground.data }], guard := none }) rfl (fun K hK => ?_) ?_
     ·have HK:=ae hK
      clear hK;go_simp
      refine HK.o _ _ ?_;clear HK K;try simp only[Act.put,jdJ,jdH,jdI]
      refine wpAny_ready (rs:=[5]) (by kernel_rfl) (by simp) ?_;refine AllReady.cons (o := { dst := some 17, op := Op.call { callee := Callee.builtin Builtin.append, args := #[Operand.tmp 13, Operand.tmp 16], argTypes := #[23, 23] }, type := 23, pos := "pack.go:64", after := #[{ on := 1, ground := Ground.data }, { on := 4, ground := Ground.data }, { on := 3, ground := Ground.chain }], guard := none }) rfl (fun K hK => ?_) ?_
      ·have HK:=ae hK
       clear hK;refine lA (by rfl) _ _ (by rfl) (w.heap.size+2) w6.heap.size _ _ x [(y0,y1,y2,y3)] (by rfl) ?_ (by rfl) ?_ ?_ ?_ ?_ ?_
       ·exact mT.o.kept (am _ _)
       ·exact AW w6 (y0,y1,y2,y3)
       ·exact Nat.zero_lt_succ _
       ·exact LO.o _
       ·exact rx xE _
       intro v7 w7 o7 b7;obtain⟨a7,cap7,rfl,Vo,hkk7,z1⟩:=HAP.o _ _ _ _ _ _ (ZL.o.kept ((jdv _ _).alloc xE _)) o7 b7;have iD:=ae o7;have ZM:=ae Vo;clear o7 b7 Vo;refine HK.o _ _ ?_;clear HK K;try simp only[Act.put,jdJ,jdH,jdI]
       refine wpAny_ready (rs:=[6]) (by kernel_rfl) (by simp) ?_;refine AllReady.cons (o := { dst := some 18, op := Op.fieldAddr 25 (Operand.tmp 3) 1, type := 0, pos := "pack.go:64", after := #[{ on := 0, ground := Ground.phase }, { on := 1, ground := Ground.phase }, { on := 2, ground := Ground.phase }, { on := 3, ground := Ground.phase }, { on := 4, ground := Ground.phase }, { on := 5, ground := Ground.phase }], guard := none }) rfl (fun K hK => ?_) ?_
       ·have HK:=ae hK
        clear hK;go_simp
        refine HK.o _ _ ?_;clear HK K;try simp only[Act.put,jdJ,jdH,jdI]
        refine wpAny_ready (rs:=[7]) (by kernel_rfl) (by simp) ?_;refine AllReady.cons (o := { dst := none, op := Op.store 23 (Operand.tmp 18) (Operand.tmp 17), type := 0, pos := "pack.go:64", after := #[{ on := 6, ground := Ground.data }, { on := 5, ground := Ground.data }, { on := 5, ground := Ground.chain }, { on := 0, ground := Ground.phase }, { on := 1, ground := Ground.phase }, { on := 2, ground := Ground.phase }, { on := 3, ground := Ground.phase }, { on := 4, ground := Ground.phase }, { on := 5, ground := Ground.phase }], guard := none }) rfl (fun K hK => ?_) ?_
        ·have HK:=ae hK
         clear hK;go_simp
         refine HK.o _ _ ?_;clear HK K;try simp only[Act.put,jdJ,jdH,jdI]
         refine wpAny_done (by kernel_rfl) ?_ _;go_wp2_with fail;exact⟨⟨k+1,x++[(y0,y1,y2,y3)],b6,f6,a7,cap7,by omega,rfl,ZM.o.set1 (.slice a7 (k+1) cap7),xo iD.o (by omega) _ _,by rw[jdy,jd6,HXL.o],fun y hy=>(jd2.1 hy).elim (LS.o y) (fun h=>by rw[jef]at h;rw[h];exact HY.o),xn HRK.o Gd.o⟩,by simp only[intOf];omega⟩
        exact AllReady.nil
       exact AllReady.nil
      exact AllReady.nil
     exact AllReady.nil
    exact AllReady.nil
   exact AllReady.nil
  ·obtain⟨⟨c0,c1⟩,⟨z0,z1⟩,⟨d0,d1⟩,⟨y0,y1⟩⟩:=Qj.facts
   obtain rfl:k=n:=by omega
   have hlt':¬ (k:Int)<(k:Int):=(by omega);clear Qj;go_wp2_with fail;obtain⟨e1,e2⟩:=PO.o.done (.int .u32 (i:Int)) (.slice a k cap);refine bodyPost_ret (v:=.agg #[.int .u32 (i:Int),.slice a k cap]) (by simp[results,Tryz.results139,go_sem,d0,d1]) rfl ?_;exact⟨i,x,_,bk,fk,rfl,(DZ HO.o (by omega) _ _).low (by omega),by have:=HI.o;omega,by have:=HXL.o;omega,LS.o,e1,XD sg.o jb.o HRK.o,e2⟩
end Go.Proofs.YtpljdjmpamjkhaaGreatDoor
