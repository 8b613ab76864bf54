import Derived.Test.YtpljdjmpamjkhaaGreatDoorVav
set_option linter.unusedVariables false
set_option linter.unusedSimpArgs false
set_option maxRecDepth 100000
set_option maxHeartbeats 8000000
namespace Go.Proofs.YtpljdjmpamjkhaaGreatDoor
open Go.RowKit Go.Lib
def Sch(w:World)(p:Nat)(W:World)(b:List Nat)(f:Nat)(x0 x1:Value):Prop :=
 St 200 W p b f/\p<w.heap.size/\W.heap[w.heap.size]?=some (.cells #[.int .u32 0,.slice none 0 0] 25 (0,0)) /\
 W.heap[w.heap.size+1]?=some (.cells #[x0,x1] 25 (0,0))/\Fr p w.heap.size w W
theorem Sch.begin{w:World}{p f:Nat}{b:List Nat}(h:St 200 w p b f) :
  Sch w p ((w.alloc (.cells #[.int .u32 0,.slice none 0 0] 25)).alloc (.cells #[.int .u32 0,.slice none 0 0] 25)) b f (.int .u32 0) (.slice none 0 0):=by
 have hbW:=((jej w.heap.size w).alloc (jek _) (.cells #[.int .u32 0,.slice none 0 0] 25)).alloc (by rw[jel];omega) (.cells #[.int .u32 0,.slice none 0 0] 25);have ch:(w.alloc (.cells #[.int .u32 0,.slice none 0 0] 25)).heap.size=w.heap.size+1:=jel _ _;have aH:=ak (w.alloc (.cells #[.int .u32 0,.slice none 0 0] 25)) (.cells #[.int .u32 0,.slice none 0 0] 25);have hh0:=jeK w (.cells #[.int .u32 0,.slice none 0 0] 25);have hh:=jeK (w.alloc (.cells #[.int .u32 0,.slice none 0 0] 25)) (.cells #[.int .u32 0,.slice none 0 0] 25);rw[ch]at hh;exact⟨h.kept hbW h.lt,h.lt,(aH.block w.heap.size (by omega)).trans hh0,hh,Fr.of_below hbW⟩
theorem Sch.call{w W W':World}{p f f':Nat}{b b':List Nat}{x0 x1:Value}(h:Sch w p W b f x0 x1)(hs:St 200 W' p b' f')(hf:Fr p W.heap.size W W'):Sch w p W' b' f' x0 x1:=by
 obtain⟨h1,h2,h3,h4,h5⟩:=h;have l3:=(Array.getElem?_eq_some_iff.1 h3).1;have l4:=(Array.getElem?_eq_some_iff.1 h4).1;exact⟨hs,h2,(hf.block _ l3 (by omega)).trans h3,(hf.block _ l4 (by omega)).trans h4,h5.trans (hf.mono (by omega))⟩
theorem Sch.size{w W:World}{p f:Nat}{b:List Nat}{x0 x1:Value}(h:Sch w p W b f x0 x1):w.heap.size+2<=W.heap.size:=(Array.getElem?_eq_some_iff.1 h.2.2.2.1).1
theorem Sch.kept{w W W':World}{p f:Nat}{b:List Nat}{x0 x1:Value}(h:Sch w p W b f x0 x1)(hb:Below (w.heap.size+2) W W'):Sch w p W' b f x0 x1:=by
 obtain⟨h1,h2,h3,h4,h5⟩:=h;exact⟨h1.kept hb (by omega),h2,(hb.block _ (by omega)).trans h3,(hb.block _ (by omega)).trans h4,h5.then (hb.mono (by omega))⟩
theorem Sch.facts{w W:World}{p f:Nat}{b:List Nat}{x0 x1:Value}(h:Sch w p W b f x0 x1) :
  (W.cell? ⟨w.heap.size+1,0,none⟩=some x0/\W.cell? ⟨w.heap.size+1,1,none⟩=some x1) /\
  (W.frozen? ⟨w.heap.size+1,0,none⟩=false/\W.frozen? ⟨w.heap.size+1,1,none⟩=false) /\
  (W.cell? ⟨w.heap.size,0,none⟩=some (.int .u32 0)/\W.cell? ⟨w.heap.size,1,none⟩=some (.slice none 0 0)) /\
  (W.frozen? ⟨w.heap.size,0,none⟩=false/\W.frozen? ⟨w.heap.size,1,none⟩=false):=by
 obtain⟨h1,h2,h3,h4,h5⟩:=h;refine⟨⟨?_,?_⟩,⟨?_,?_⟩,⟨?_,?_⟩,⟨?_,?_⟩⟩<;>first | (rw[ay h4];rfl) | (rw[ay h3];rfl) | (simp[World.frozen?,h4];done) | (simp[World.frozen?,h3];done)
theorem Sch.keep{w W:World}{p f:Nat}{b:List Nat}{x0 x1:Value}(h:Sch w p W b f x0 x1)(j:Nat)(v:Value) :
  St 200 (W.setCell ⟨w.heap.size+1,j,none⟩ v) p b f/\(W.setCell ⟨w.heap.size+1,j,none⟩ v).heap[w.heap.size]?=some (.cells #[.int .u32 0,.slice none 0 0] 25 (0,0))/\Fr p w.heap.size w (W.setCell ⟨w.heap.size+1,j,none⟩ v):=by
 obtain⟨h1,h2,h3,h4,h5⟩:=h;have hb:Below (w.heap.size+1) W (W.setCell ⟨w.heap.size+1,j,none⟩ v):=(jej (w.heap.size+1) W).setCell (show w.heap.size+1<=w.heap.size+1 from jek _) _;exact⟨h1.kept hb (by omega),(hb.block _ (by omega)).trans h3,h5.then (hb.mono (by omega))⟩
theorem Sch.set0{w W:World}{p f:Nat}{b:List Nat}{x0 x1:Value}(h:Sch w p W b f x0 x1)(v:Value):Sch w p (W.setCell ⟨w.heap.size+1,0,none⟩ v) b f v x1 :=
 ⟨(h.keep 0 v).1,h.2.1,(h.keep 0 v).2.1,by rw[cM h.2.2.2.1];rfl,(h.keep 0 v).2.2⟩
theorem Sch.set1{w W:World}{p f:Nat}{b:List Nat}{x0 x1:Value}(h:Sch w p W b f x0 x1)(v:Value):Sch w p (W.setCell ⟨w.heap.size+1,1,none⟩ v) b f x0 v :=
 ⟨(h.keep 1 v).1,h.2.1,(h.keep 1 v).2.1,by rw[cM h.2.2.2.1];rfl,(h.keep 1 v).2.2⟩
theorem Sch.done{w W:World}{p f:Nat}{b:List Nat}{x0 x1:Value}(h:Sch w p W b f x0 x1)(y0 y1:Value) :
  St 200 ((W.setCell ⟨w.heap.size,0,none⟩ y0).setCell ⟨w.heap.size,1,none⟩ y1) p b f/\Fr p w.heap.size w ((W.setCell ⟨w.heap.size,0,none⟩ y0).setCell ⟨w.heap.size,1,none⟩ y1):=by
 obtain⟨h1,h2,h3,h4,h5⟩:=h;have hb:=qr (jej w.heap.size W) (jek w.heap.size) y0 y1;exact⟨h1.kept hb h2,h5.then hb⟩
theorem xU{k:Nat}{b b1 b2:List Nat}{f f1 f2:Nat}{x:List Fd}{y:Fd}(h1:Rds (li k) b f x b1 f1)(h2:Rds uX b1 f1 y b2 f2):Rds (li (k+1)) b f (x++[y]) b2 f2 :=
 h1.bind (h2.bind (Rds.pure (x++[y]) b2 f2))
def Yr(p:Nat)(b:List Nat)(f:Nat)(w:World)(r:Ending)(w':World):Prop :=
 ∃(id:Nat) (l:List Fd) (v:Value) (b':List Nat) (f':Nat),r=.returned (.agg #[.int .u32 (id:Int),v])/\ea w' w.heap.size v l/\id<4294967296/\l.length<=8/\(∀ y∈l,Okf y/\y.2.1.size<=16) /\
  St 200 w' p b' f'/\Rds DD b f (id,l) b' f'/\Fr p w.heap.size w w'
theorem Ys{b b1 b2 b3:List Nat}{f f1 f2 f3 i n:Nat}{l:List Fd}(h1:Rds (iy 4294967295) b f i b1 f1)(h2:Rds (iy 8) b1 f1 n b2 f2)(h3:Rds (li n) b2 f2 l b3 f3):Rds DD b f (i,l) b3 f3 :=
 h1.bind (h2.bind (h3.bind (Rds.pure (i,l) b3 f3)))
theorem xV{w1:World}{B p:Nat}{v:Value}{l:List Fd}(h:ea w1 B v l)(hp:p<B)(j:Nat)(x:Value):ea (w1.setCell ⟨p,j,none⟩ x) B v l :=
 Fr.own ((Fr.refl p w1.heap.size w1).set j x) h hp
theorem Kq{w:World}{p f:Nat}{b:List Nat}(h:St 200 w p b f) :
  Calls Tryz.prog 139 #[.pointer (some ⟨p,0,none⟩)] w (Yr p b f w):=by
 have HM:=ae (Sch.begin h);have ch:(w.alloc (.cells #[.int .u32 0,.slice none 0 0] 25)).heap.size=w.heap.size+1:=jel _ _;clear h;generalize hW:(w.alloc (.cells #[.int .u32 0,.slice none 0 0] 25)).alloc (.cells #[.int .u32 0,.slice none 0 0] 25)=W at *;go_enter Tryz.func139,Tryz.ntmps139
 go_wp2_with fail;try rw[hW]
 clear hW ch;refine(jl HM.o.1 4294967295 (by omega)).mono ?_;rintro e w1 ⟨i,b1,f1,rfl,hi,eg,Bh,dh⟩;have QJ:=ae (HM.o.call eg dh);have sP:=ae Bh;have HI:=ae hi;have hi':i<4294967296:=by omega
 obtain⟨⟨c0,c1⟩,⟨z0,z1⟩,_,_⟩:=QJ.o.facts;clear eg Bh dh hi HM;go_wp2_with fail;have Lo:=ae (QJ.o.set0 (.int .u32 (i:Int)));clear QJ c0 c1 z0 z1;generalize hX:w1.setCell ⟨w.heap.size+1,0,none⟩ (.int .u32 (i:Int))=X at *;try rw[hX]
 clear hX;refine(jl Lo.o.1 8 (by omega)).mono ?_;rintro e w2 ⟨n,b2,f2,rfl,hn,dR,CK,dG⟩;have VB:=ae (Lo.o.call dR dG);have jn:=ae CK;clear dR CK dG Lo;go_wp2_with fail;go_loopw [10] (λi' wr=>∃(k:Nat) (x:List Fd) (bk:List Nat) (fk:Nat) (a:Option Addr) (cap:Nat),k<=n/\i'=.int .u64 (k:Int)/\Sch w p wr bk fk (.int .u32 (i:Int)) (.slice a k cap)/\ea wr (w.heap.size+2) (.slice a k cap) x/\x.length=k/\(∀ y∈x,Okf y/\y.2.1.size<=16)/\Rds (li k) b2 f2 x bk fk) (λi' _=>n-(intOf i').toNat)
 case atStart=>exact⟨0,[],b2,f2,none,0,by omega,rfl,VB.o,ea.nil _ _,rfl,(λ_ h=>absurd h (by simp)),Rds.pure [] b2 f2⟩
 case round =>
  obtain⟨k,x,bk,fk,a,cap,hk,rfl,QS,aA,hxl,iY,hrk⟩:=hrel;have Qy:=ae QS;have HO:=ae aA;have HXL:=ae hxl;have Mz:=ae iY;have HRK:=ae hrk;clear aA hxl iY hrk;by_cases aB:k<n
  ·have hlt':(k:Int)<(n:Int):=by omega
   have hwk:IntKind.u64.wrap ((k:Int)+1)=((k+1:Nat):Int):=by rw[jeP];omega
   obtain⟨⟨c0,c1⟩,⟨z0,z1⟩,_,_⟩:=QS.facts;have qG:=ae QS.size;clear QS
   have pQ:jgf (∀ m,Calls Tryz.prog 179 #[.pointer (some ⟨p,0,none⟩)] (wr.drewN m) λe w'=>∃(y0:Nat) (y1:ByteArray) (y2:Nat) (y3:Bool) (b':List Nat) (f':Nat),e=.returned (.agg #[.int .u32 (y0:Int),.string y1,.int .u8 (y2:Int),.bool y3])/\(Okf (y0,y1,y2,y3)/\y1.size<=16)/\Sch w p w' b' f' (.int .u32 (i:Int)) (.slice a k cap)/\Rds uX bk fk (y0,y1,y2,y3) b' f'/\ea w' (w.heap.size+2) (.slice a k cap) x/\w.heap.size+2<=w'.heap.size/\w'.cell? ⟨w.heap.size+1,1,none⟩=some (.slice a k cap)/\(w'.alloc (.cells #[.int .u32 (y0:Int),.string y1,.int .u8 (y2:Int),.bool y3] 81)).cell? ⟨w.heap.size+1,1,none⟩=some (.slice a k cap)):=ae (λm=>by
    have nC:Below wr.heap.size wr (wr.drewN m):=ar (jej wr.heap.size wr) m;refine(PQ (Qy.o.1.kept nC Qy.o.1.lt)).mono ?_;rintro e w' ⟨⟨y0,y1,y2,y3⟩,b',f',rfl,hy,hs',hr',hf'⟩;have dG:Fr p wr.heap.size wr w':=(Fr.of_below nC).trans (hf'.mono nC.size);have hm:=Qy.o.call hs' dG;obtain⟨⟨d0,d1⟩,⟨e0,e1⟩,_,_⟩:=hm.facts;have QN:=Qy.o.2.1;exact⟨y0,y1,y2,y3,b',f',rfl,hy,hm,hr',Fr.own dG HO.o (by omega),hm.size,d1,((ak w' _).cell (p:=⟨w.heap.size+1,1,none⟩) (by have:=hm.size;show w.heap.size+1<_;omega)).trans d1⟩)
   have HAP:jgf (∀ y b' f' w6 w7 v7,Sch w p w6 b' f' (.int .u32 (i:Int)) (.slice a k cap)->ea w7 (w.heap.size+2) v7 (x++[y])->Below (w.heap.size+2) w6 w7->∃ a7 cap7,v7=.slice a7 (k+1) cap7/\Sch w p w7 b' f' (.int .u32 (i:Int)) (.slice a k cap)/\(w7.cell? ⟨w.heap.size+1,1,none⟩=some (.slice a k cap)/\w7.frozen? ⟨w.heap.size+1,1,none⟩=false)):=ae (λy b' f' w6 w7 v7 hm o7 iR=>by
    obtain⟨a7,cap7,hv,_,_⟩:=aO o7;rw[jem,jeS,HXL.o]at hv;have Wb:=hm.kept iR;obtain⟨⟨d0,d1⟩,⟨e0,e1⟩,_,_⟩:=Wb.facts;exact⟨a7,cap7,hv,Wb,d1,e1⟩)
   have CL:jgf (∀ y:Fd,x.length+[y].length<=100000):=ae (λy=>by rw[jeS,HXL.o];omega);clear c0 z0 z1;go_wp2_with fail;refine wp_region_any (by kernel_rfl) ?_;change wpAny _ _ _ _ _ _ _ wr.drew
   refine wpAny_take (i := 0) (oi := { dst := some 12, op := Op.fieldAddr 25 (Operand.tmp 3) 1, type := 0, pos := "pack.go:64", after := #[], guard := none }) (v := ?_) rfl (by kernel_rfl) (by kernel_rfl) (by kernel_rfl) (λ_ _ _ h => h) (Or.inl ⟨by rfl, ?_⟩) ?_;rotate_left
   ·intro w9
    first | (go_simp;done) | (go_simp;with_reducible rfl)
   try simp only[Act.put,jey,jew,jex]
   refine wpAny_take (i := 2) (oi := { dst := some 14, op := Op.move (Operand.tmp 0), type := 198, pos := "pack.go:64", after := #[], guard := none }) (v := ?_) rfl (by kernel_rfl) (by kernel_rfl) (by kernel_rfl) (λ_ _ _ h => h) (Or.inl ⟨by rfl, ?_⟩) ?_;rotate_left
   ·intro w9
    first | (go_simp;done) | (go_simp;with_reducible rfl)
   try simp only[Act.put,jey,jew,jex]
   refine wpAny_ready (rs:=[1,3]) (by kernel_rfl) (by simp) ?_;refine AllReady.cons (o := { dst := some 13, op := Op.load 23 (Operand.tmp 12), type := 23, pos := "pack.go:64", after := #[{ on := 0, ground := Ground.data }], guard := none }) rfl (λK hK => ?_) ?_
   ·have HK:=ae hK
    clear hK;go_simp
    refine HK.o _ _ ?_;clear HK K;try simp only[Act.put,jey,jew,jex]
    refine wpAny_ready (rs:=[3]) (by kernel_rfl) (by simp) ?_;refine AllReady.cons (o := { dst := some 15, op := Op.call { callee := Callee.value (Operand.func 179), args := #[Operand.tmp 14], argTypes := #[198] }, type := 81, pos := "pack.go:64", after := #[{ on := 2, ground := Ground.data }], guard := none }) rfl (λK hK => ?_) ?_
    ·have HK:=ae hK
     clear hK;go_simp
     refine(pQ.o 1).mono ?_;rintro e w6 ⟨y0,y1,y2,y3,b6,f6,rfl,hy,hm6,VT,o6,yl,GH,hkk2⟩;have HY:=ae hy;have HM6:=ae hm6;have GN:=ae VT;have my:=ae o6;clear hy hm6 VT o6;go_wp2_with fail;refine HK.o _ _ ?_;clear HK K;try simp only[Act.put,jey,jew,jex]
     refine wpAny_ready (rs:=[4]) (by kernel_rfl) (by simp) ?_;refine AllReady.cons (o := { dst := some 16, op := Op.buildSlice 23 1 #[(0, Operand.tmp 15)], type := 23, pos := "pack.go:64", after := #[{ on := 3, ground := Ground.data }], guard := none }) rfl (λK hK => ?_) ?_
     ·have HK:=ae hK
      clear hK;go_simp
      refine HK.o _ _ ?_;clear HK K;try simp only[Act.put,jey,jew,jex]
      refine wpAny_ready (rs:=[5]) (by kernel_rfl) (by simp) ?_;refine AllReady.cons (o := { dst := some 17, op := Op.call { callee := Callee.builtin Builtin.append, args := #[Operand.tmp 13, Operand.tmp 16], argTypes := #[23, 23] }, type := 23, pos := "pack.go:64", after := #[{ on := 1, ground := Ground.data }, { on := 4, ground := Ground.data }, { on := 3, ground := Ground.chain }], guard := none }) rfl (λK hK => ?_) ?_
      ·have HK:=ae hK
       clear hK;refine lI (by rfl) _ _ (by rfl) (w.heap.size+2) w6.heap.size _ _ x [(y0,y1,y2,y3)] (by rfl) ?_ (by rfl) ?_ ?_ ?_ ?_ ?_
       ·exact my.o.kept (ak _ _)
       ·exact BR w6 (y0,y1,y2,y3)
       ·exact Nat.zero_lt_succ _
       ·exact CL.o _
       ·exact rP yl _
       intro v7 w7 o7 b7;obtain⟨a7,cap7,rfl,Wb,hkk7,z1⟩:=HAP.o _ _ _ _ _ _ (HM6.o.kept ((jej _ _).alloc yl _)) o7 b7;have iI:=ae o7;have HM7:=ae Wb;clear o7 b7 Wb;refine HK.o _ _ ?_;clear HK K;try simp only[Act.put,jey,jew,jex]
       refine wpAny_ready (rs:=[6]) (by kernel_rfl) (by simp) ?_;refine AllReady.cons (o := { dst := some 18, op := Op.fieldAddr 25 (Operand.tmp 3) 1, type := 0, pos := "pack.go:64", after := #[{ on := 0, ground := Ground.phase }, { on := 1, ground := Ground.phase }, { on := 2, ground := Ground.phase }, { on := 3, ground := Ground.phase }, { on := 4, ground := Ground.phase }, { on := 5, ground := Ground.phase }], guard := none }) rfl (λK hK => ?_) ?_
       ·have HK:=ae hK
        clear hK;go_simp
        refine HK.o _ _ ?_;clear HK K;try simp only[Act.put,jey,jew,jex]
        refine wpAny_ready (rs:=[7]) (by kernel_rfl) (by simp) ?_;refine AllReady.cons (o := { dst := none, op := Op.store 23 (Operand.tmp 18) (Operand.tmp 17), type := 0, pos := "pack.go:64", after := #[{ on := 6, ground := Ground.data }, { on := 5, ground := Ground.data }, { on := 5, ground := Ground.chain }, { on := 0, ground := Ground.phase }, { on := 1, ground := Ground.phase }, { on := 2, ground := Ground.phase }, { on := 3, ground := Ground.phase }, { on := 4, ground := Ground.phase }, { on := 5, ground := Ground.phase }], guard := none }) rfl (λK hK => ?_) ?_
        ·have HK:=ae hK
         clear hK;go_simp
         refine HK.o _ _ ?_;clear HK K;try simp only[Act.put,jey,jew,jex]
         refine wpAny_done (by kernel_rfl) ?_ _;go_wp2_with fail;exact⟨⟨k+1,x++[(y0,y1,y2,y3)],b6,f6,a7,cap7,by omega,rfl,HM7.o.set1 (.slice a7 (k+1) cap7),xV iI.o (by omega) _ _,by rw[jem,jeS,HXL.o],λy hy=>(jeN.1 hy).elim (Mz.o y) (λh=>by rw[jeX]at h;rw[h];exact HY.o),xU HRK.o GN.o⟩,by simp only[intOf];omega⟩
        exact AllReady.nil
       exact AllReady.nil
      exact AllReady.nil
     exact AllReady.nil
    exact AllReady.nil
   refine AllReady.cons (o := { dst := some 15, op := Op.call { callee := Callee.value (Operand.func 179), args := #[Operand.tmp 14], argTypes := #[198] }, type := 81, pos := "pack.go:64", after := #[{ on := 2, ground := Ground.data }], guard := none }) rfl (λK hK => ?_) ?_
   ·have HK:=ae hK
    clear hK;go_simp
    refine(pQ.o 1).mono ?_;rintro e w6 ⟨y0,y1,y2,y3,b6,f6,rfl,hy,hm6,VT,o6,yl,GH,hkk2⟩;have HY:=ae hy;have HM6:=ae hm6;have GN:=ae VT;have my:=ae o6;clear hy hm6 VT o6;go_wp2_with fail;refine HK.o _ _ ?_;clear HK K;try simp only[Act.put,jey,jew,jex]
    refine wpAny_ready (rs:=[1,4]) (by kernel_rfl) (by simp) ?_;refine AllReady.cons (o := { dst := some 13, op := Op.load 23 (Operand.tmp 12), type := 23, pos := "pack.go:64", after := #[{ on := 0, ground := Ground.data }], guard := none }) rfl (λK hK => ?_) ?_
    ·have HK:=ae hK
     clear hK;go_simp
     refine HK.o _ _ ?_;clear HK K;try simp only[Act.put,jey,jew,jex]
     refine wpAny_ready (rs:=[4]) (by kernel_rfl) (by simp) ?_;refine AllReady.cons (o := { dst := some 16, op := Op.buildSlice 23 1 #[(0, Operand.tmp 15)], type := 23, pos := "pack.go:64", after := #[{ on := 3, ground := Ground.data }], guard := none }) rfl (λK hK => ?_) ?_
     ·have HK:=ae hK
      clear hK;go_simp
      refine HK.o _ _ ?_;clear HK K;try simp only[Act.put,jey,jew,jex]
      refine wpAny_ready (rs:=[5]) (by kernel_rfl) (by simp) ?_;refine AllReady.cons (o := { dst := some 17, op := Op.call { callee := Callee.builtin Builtin.append, args := #[Operand.tmp 13, Operand.tmp 16], argTypes := #[23, 23] }, type := 23, pos := "pack.go:64", after := #[{ on := 1, ground := Ground.data }, { on := 4, ground := Ground.data }, { on := 3, ground := Ground.chain }], guard := none }) rfl (λK hK => ?_) ?_
      ·have HK:=ae hK
       clear hK;refine lI (by rfl) _ _ (by rfl) (w.heap.size+2) w6.heap.size _ _ x [(y0,y1,y2,y3)] (by rfl) ?_ (by rfl) ?_ ?_ ?_ ?_ ?_
       ·exact my.o.kept (ak _ _)
       ·exact BR w6 (y0,y1,y2,y3)
       ·exact Nat.zero_lt_succ _
       ·exact CL.o _
       ·exact rP yl _
       intro v7 w7 o7 b7;obtain⟨a7,cap7,rfl,Wb,hkk7,z1⟩:=HAP.o _ _ _ _ _ _ (HM6.o.kept ((jej _ _).alloc yl _)) o7 b7;have iI:=ae o7;have HM7:=ae Wb;clear o7 b7 Wb;refine HK.o _ _ ?_;clear HK K;try simp only[Act.put,jey,jew,jex]
       refine wpAny_ready (rs:=[6]) (by kernel_rfl) (by simp) ?_;refine AllReady.cons (o := { dst := some 18, op := Op.fieldAddr 25 (Operand.tmp 3) 1, type := 0, pos := "pack.go:64", after := #[{ on := 0, ground := Ground.phase }, { on := 1, ground := Ground.phase }, { on := 2, ground := Ground.phase }, { on := 3, ground := Ground.phase }, { on := 4, ground := Ground.phase }, { on := 5, ground := Ground.phase }], guard := none }) rfl (λK hK => ?_) ?_
       ·have HK:=ae hK
        clear hK;go_simp
        refine HK.o _ _ ?_;clear HK K;try simp only[Act.put,jey,jew,jex]
        refine wpAny_ready (rs:=[7]) (by kernel_rfl) (by simp) ?_;refine AllReady.cons (o := { dst := none, op := Op.store 23 (Operand.tmp 18) (Operand.tmp 17), type := 0, pos := "pack.go:64", after := #[{ on := 6, ground := Ground.data }, { on := 5, ground := Ground.data }, { on := 5, ground := Ground.chain }, { on := 0, ground := Ground.phase }, { on := 1, ground := Ground.phase }, { on := 2, ground := Ground.phase }, { on := 3, ground := Ground.phase }, { on := 4, ground := Ground.phase }, { on := 5, ground := Ground.phase }], guard := none }) rfl (λK hK => ?_) ?_
        ·have HK:=ae hK
         clear hK;go_simp
         refine HK.o _ _ ?_;clear HK K;try simp only[Act.put,jey,jew,jex]
         refine wpAny_done (by kernel_rfl) ?_ _;go_wp2_with fail;exact⟨⟨k+1,x++[(y0,y1,y2,y3)],b6,f6,a7,cap7,by omega,rfl,HM7.o.set1 (.slice a7 (k+1) cap7),xV iI.o (by omega) _ _,by rw[jem,jeS,HXL.o],λy hy=>(jeN.1 hy).elim (Mz.o y) (λh=>by rw[jeX]at h;rw[h];exact HY.o),xU HRK.o GN.o⟩,by simp only[intOf];omega⟩
        exact AllReady.nil
       exact AllReady.nil
      exact AllReady.nil
     exact AllReady.nil
    refine AllReady.cons (o := { dst := some 16, op := Op.buildSlice 23 1 #[(0, Operand.tmp 15)], type := 23, pos := "pack.go:64", after := #[{ on := 3, ground := Ground.data }], guard := none }) rfl (λK hK => ?_) ?_
    ·have HK:=ae hK
     clear hK;go_simp
     refine HK.o _ _ ?_;clear HK K;try simp only[Act.put,jey,jew,jex]
     refine wpAny_ready (rs:=[1]) (by kernel_rfl) (by simp) ?_;refine AllReady.cons (o := { dst := some 13, op := Op.load 23 (Operand.tmp 12), type := 23, pos := "pack.go:64", after := #[{ on := 0, ground := Ground.data }], guard := none }) rfl (λK hK => ?_) ?_
     ·have HK:=ae hK
      clear hK;go_simp
      refine HK.o _ _ ?_;clear HK K;try simp only[Act.put,jey,jew,jex]
      refine wpAny_ready (rs:=[5]) (by kernel_rfl) (by simp) ?_;refine AllReady.cons (o := { dst := some 17, op := Op.call { callee := Callee.builtin Builtin.append, args := #[Operand.tmp 13, Operand.tmp 16], argTypes := #[23, 23] }, type := 23, pos := "pack.go:64", after := #[{ on := 1, ground := Ground.data }, { on := 4, ground := Ground.data }, { on := 3, ground := Ground.chain }], guard := none }) rfl (λK hK => ?_) ?_
      ·have HK:=ae hK
       clear hK;refine lI (by rfl) _ _ (by rfl) (w.heap.size+2) w6.heap.size _ _ x [(y0,y1,y2,y3)] (by rfl) ?_ (by rfl) ?_ ?_ ?_ ?_ ?_
       ·exact my.o.kept (ak _ _)
       ·exact BR w6 (y0,y1,y2,y3)
       ·exact Nat.zero_lt_succ _
       ·exact CL.o _
       ·exact rP yl _
       intro v7 w7 o7 b7;obtain⟨a7,cap7,rfl,Wb,hkk7,z1⟩:=HAP.o _ _ _ _ _ _ (HM6.o.kept ((jej _ _).alloc yl _)) o7 b7;have iI:=ae o7;have HM7:=ae Wb;clear o7 b7 Wb;refine HK.o _ _ ?_;clear HK K;try simp only[Act.put,jey,jew,jex]
       refine wpAny_ready (rs:=[6]) (by kernel_rfl) (by simp) ?_;refine AllReady.cons (o := { dst := some 18, op := Op.fieldAddr 25 (Operand.tmp 3) 1, type := 0, pos := "pack.go:64", after := #[{ on := 0, ground := Ground.phase }, { on := 1, ground := Ground.phase }, { on := 2, ground := Ground.phase }, { on := 3, ground := Ground.phase }, { on := 4, ground := Ground.phase }, { on := 5, ground := Ground.phase }], guard := none }) rfl (λK hK => ?_) ?_
       ·have HK:=ae hK
        clear hK;go_simp
        refine HK.o _ _ ?_;clear HK K;try simp only[Act.put,jey,jew,jex]
        refine wpAny_ready (rs:=[7]) (by kernel_rfl) (by simp) ?_;refine AllReady.cons (o := { dst := none, op := Op.store 23 (Operand.tmp 18) (Operand.tmp 17), type := 0, pos := "pack.go:64", after := #[{ on := 6, ground := Ground.data }, { on := 5, ground := Ground.data }, { on := 5, ground := Ground.chain }, { on := 0, ground := Ground.phase }, { on := 1, ground := Ground.phase }, { on := 2, ground := Ground.phase }, { on := 3, ground := Ground.phase }, { on := 4, ground := Ground.phase }, { on := 5, ground := Ground.phase }], guard := none }) rfl (λK hK => ?_) ?_
        ·have HK:=ae hK
         clear hK;go_simp
         refine HK.o _ _ ?_;clear HK K;try simp only[Act.put,jey,jew,jex]
         refine wpAny_done (by kernel_rfl) ?_ _;go_wp2_with fail;exact⟨⟨k+1,x++[(y0,y1,y2,y3)],b6,f6,a7,cap7,by omega,rfl,HM7.o.set1 (.slice a7 (k+1) cap7),xV iI.o (by omega) _ _,by rw[jem,jeS,HXL.o],λy hy=>(jeN.1 hy).elim (Mz.o y) (λh=>by rw[jeX]at h;rw[h];exact HY.o),xU HRK.o GN.o⟩,by simp only[intOf];omega⟩
        exact AllReady.nil
       exact AllReady.nil
      exact AllReady.nil
     exact AllReady.nil
    exact AllReady.nil
   exact AllReady.nil
  ·obtain⟨⟨c0,c1⟩,⟨z0,z1⟩,⟨d0,d1⟩,⟨y0,y1⟩⟩:=QS.facts
   obtain rfl:k=n:=by omega
   have hlt':¬ (k:Int)<(k:Int):=(by omega);clear QS;go_wp2_with fail;obtain⟨e1,e2⟩:=Qy.o.done (.int .u32 (i:Int)) (.slice a k cap);refine bodyPost_ret (v:=.agg #[.int .u32 (i:Int),.slice a k cap]) (by simp[results,Tryz.results139,go_sem,d0,d1]) rfl ?_;exact⟨i,x,_,bk,fk,rfl,(ER HO.o (by omega) _ _).low (by omega),by have:=HI.o;omega,by have:=HXL.o;omega,Mz.o,e1,Ys sP.o jn.o HRK.o,e2⟩
theorem FN(a:List Fd)(f:Fd):(f.1<=fd a)↔(f.1=0∨(0<a.length/\f.1<=fd a)):=by
 constructor
 ·intro h
  rcases jfa a.length with h0 | h0
  ·rw[jeI h0]at h
   left
   simpa [fd]using h
  ·exact Or.inr ⟨h0,h⟩
 ·rintro(h | h)
  ·omega
  ·exact h.2
theorem FO{l:List Fd}{k m:Nat}(hm:k=m+1)(h:m<l.length):fd (l.take k)=l[m].1:=by
 subst hm;exact GQ h
theorem sg{w:World}{v:Value}{l:List Fd}(hs:Sf w v l)(id:Nat):Calls Tryz.prog 15 #[.agg #[.int .u32 (id:Int),v]] w λe w'=>e=.returned (.int .i64 (chk id l:Int))/\Below w.heap.size w w':=by
 obtain⟨a,cap,rfl,aW,bC⟩:=hs.form;have ce:=ae (ak w (.cells #[.int .u32 (id:Int),.slice a l.length cap] 25));have HS:=ae (hs.kept (ak w (.cells #[.int .u32 (id:Int),.slice a l.length cap] 25)));obtain⟨c0,c1⟩:=bx w (.int .u32 (id:Int)) (.slice a l.length cap) 25;have hz:w.heap.size<(w.alloc (.cells #[.int .u32 (id:Int),.slice a l.length cap] 25)).heap.size:=by rw[jel];omega
 clear hs;by_cases h1:id=0∨l.length=0∨8<l.length
 ·have HR:jgf (chk id l=1):=ae (jei h1)
  clear c0 c1 hz HS;by_cases q1:id=0
  ·subst q1
   go_enter Tryz.func15,Tryz.ntmps15
   go_wp2_with fail;go_ret
   rw[HR.o];exact⟨rfl,ce.o⟩
  ·have q1':((id:Int)==0)=false:=by simp[q1]
   by_cases q2:l.length=0
   ·have q2':((l.length:Int)==0)=true:=by simp[q2]
    clear h1 q1 q2;go_enter Tryz.func15,Tryz.ntmps15
    go_wp2_with fail;go_ret
    rw[HR.o];exact⟨rfl,ce.o⟩
   ·have q2':((l.length:Int)==0)=false:=by simp[q2]
    have q3:(l.length:Int) > 8:=(by omega);clear h1 q1 q2;go_enter Tryz.func15,Tryz.ntmps15
    go_wp2_with fail;go_ret
    rw[HR.o];exact⟨rfl,ce.o⟩
 ·have HR:jgf (chk id l=fe (l.take 0) (l.drop 0)):=ae (jeh h1)
  have q1':((id:Int)==0)=false:=jev.2 (by omega);have q2':((l.length:Int)==0)=false:=jev.2 (by omega);have q3:¬ (l.length:Int) > 8:=by omega
  have hl8:l.length<=8:=by omega
  clear h1;generalize chk id l=CH at *;generalize hW:w.alloc (.cells #[.int .u32 (id:Int),.slice a l.length cap] 25)=W at *;go_enter Tryz.func15,Tryz.ntmps15
  go_wp2_with fail;try rw[hW]
  clear hW;go_loopw [3] (λi wr=>∃ k:Nat,k<=l.length/\i=.int .i64 (k:Int)/\CH=fe (l.take k) (l.drop k)/\Below W.heap.size W wr) (λi _=>l.length-(intOf i).toNat)
  case atStart=>exact⟨0,by omega,rfl,HR.o,jej _ _⟩
  case round =>
   obtain⟨k,hk,rfl,kT,az⟩:=hrel;have HF:=ae kT;have HB:=ae az;have bH:=az.size;clear kT az HR;by_cases aB:k<l.length
   ·obtain⟨b,off,rfl,hb,x0,x1,x2,x3⟩:=(HS.o.kept HB.o).at aB
    have HT:=ae (HF.o.trans (LC aB));have hlt':(k:Int)<(l.length:Int):=(by omega);have hkc:(k:Int)<=(cap:Int):=(by omega);have jco:(0:Int)<=(k:Int):=(by omega);have hktn:((k:Int)).toNat=k:=(by omega);have hdcap:¬ cap=0:=(by omega);have cP:=ae (HS.o.take (k:=k) (by omega));have vO:(l.take k).length=k:=by rw[jeq];omega
    generalize hf:l[k]=f at *;obtain⟨f0,f1,f2,f3⟩:=f;have lP:jgf (gq (l.take k) (f0,f1,f2,f3)=if f0<=fd (l.take k) then 81 else if wt (l.take k) f1=false then 80 else if ld f2=false then 10 else if (f3 != decide ((l.take k).length=0))=true∨((l.take k).length=0/\f2=2) then 82 else 0):=ae rfl;rw[vO]at lP;simp only at *;have d1:=(HB.o.cell (p:=⟨w.heap.size,1,none⟩) hz).trans c1;have qJ:=ak wr (.cells #[.int .u32 (f0:Int),.string f1,.int .u8 (f2:Int),.bool f3] 81);have e1:=(qJ.cell (p:=⟨w.heap.size,1,none⟩) (jeH hz bH)).trans d1;obtain⟨g0,g1,g2,g3⟩:=jg wr (.int .u32 (f0:Int)) (.string f1) (.int .u8 (f2:Int)) (.bool f3) 81;have aN:=ae (HB.o.trans (qJ.mono bH));have jG:wr.heap.size<(wr.alloc (.cells #[.int .u32 (f0:Int),.string f1,.int .u8 (f2:Int),.bool f3] 81)).heap.size:=by rw[jel];omega
    have pV:=ae ((cP.o.kept HB.o).kept qJ);have Ro:jgf (∀ U,Below (wr.alloc (.cells #[.int .u32 (f0:Int),.string f1,.int .u8 (f2:Int),.bool f3] 81)).heap.size (wr.alloc (.cells #[.int .u32 (f0:Int),.string f1,.int .u8 (f2:Int),.bool f3] 81)) U->Calls Tryz.prog 50 #[.slice (some ⟨b,off,none⟩) k cap,.string f1] U λe w'=>e=.returned (.bool (pp (l.take k) f1))/\w'=U):=ae (λU hU=>XL (pV.o.kept hU) f1);generalize hV:wr.alloc (.cells #[.int .u32 (f0:Int),.string f1,.int .u8 (f2:Int),.bool f3] 81)=V at *;have et:jgf (∀ w',Below V.heap.size V w'->(w'.cell? ⟨w.heap.size,1,none⟩=some (.slice (some ⟨b,off,none⟩) l.length cap)/\w'.cell? ⟨wr.heap.size,1,none⟩=some (.string f1))/\w'.cell? ⟨wr.heap.size,2,none⟩=some (.int .u8 (f2:Int))/\w'.cell? ⟨wr.heap.size,3,none⟩=some (.bool f3)):=ae (λw' h=>⟨⟨(h.cell (p:=⟨w.heap.size,1,none⟩) (show w.heap.size<_ by omega)).trans e1,(h.cell (p:=⟨wr.heap.size,1,none⟩) jG).trans g1⟩,(h.cell (p:=⟨wr.heap.size,2,none⟩) jG).trans g2,(h.cell (p:=⟨wr.heap.size,3,none⟩) jG).trans g3⟩)
    have MH:jgf (∀ U,Below V.heap.size V U->Calls Tryz.prog 49 #[.string f1] U λe w'=>e=.returned (.bool (named f1))/\Below V.heap.size V w'/\(w'.cell? ⟨w.heap.size,1,none⟩=some (.slice (some ⟨b,off,none⟩) l.length cap)/\w'.cell? ⟨wr.heap.size,1,none⟩=some (.string f1))):=ae (λU hU=>(NR f1 U).mono (by
     rintro e w2 ⟨rfl,aE⟩;have aS:=ai hU aE;exact⟨rfl,aS,(et.o _ aS).1⟩))
    have jaJ:wt (l.take k) f1=(named f1 && !pp (l.take k) f1):=rfl;have lD:=ae jaJ;have HID:=ae (FN (l.take k) (f0,f1,f2,f3));rw[vO]at HID
    have pU:jgf (∀ m,k=m+1->∃ la:Nat,fd (l.take k)=la/\V.cell? ⟨b,off+m*4,none⟩=some (.int .u32 (la:Int))):=ae (λm hm=>by
     obtain⟨b',off',hbe,_,y0,_⟩:=(HS.o.kept aN.o).at (k:=m) (by omega);cases hbe
     exact⟨_,FO hm (by omega),y0⟩)
    clear jaJ qJ g1 g2 g3 hf vO pV cP c0 c1;generalize gq (l.take k) (f0,f1,f2,f3)=R at *;by_cases ch:f0=0
    ·have hR:R=81:=by rw[lP.o,jei (HID.o.2 (Or.inl ch))]
     have hz0':((f0:Int)==0)=true:=by rw[ch];rfl
     rw[hR,jeh (by omega)]at HT;clear hR lP HID ch pU;go_wp2_with fail;try rw[hV]
     clear hV;go_quiet (fail)
     go_wp2_with fail;go_ret
     rw[HT.o];exact⟨rfl,ar (ai ce.o aN.o) _⟩
    ·have hz0':((f0:Int)==0)=false:=jev.2 (by omega)
     by_cases Gt:0<k/\f0<=fd (l.take k)
     ·have hR:R=81:=by rw[lP.o,jei (HID.o.2 (Or.inr Gt))]
      obtain⟨qB,pt⟩:=Gt;obtain⟨m,hm⟩:∃ m,k=m+1:=⟨k-1,by omega⟩;obtain⟨la,Qp,eX⟩:=pU.o m hm;rw[Qp]at pt;have t1:decide ((k:Int) > 0)=true:=jeB (by omega);have t1':(k:Int) > 0:=(by omega);have t1n:decide (0<k)=true:=jeB (by omega);have t1m:0<k:=(by omega);have t2:IntKind.i64.wrap ((k:Int)-1)=(m:Int):=by rw[jeV];omega
      have t3:(0:Int)<=(m:Int):=(by omega);have t4:(m:Int)<(l.length:Int):=(by omega);have t5:((m:Int)).toNat=m:=(by omega);have t6:decide ((f0:Int)<=(la:Int))=true:=jeB (by omega);have t6':(f0:Int)<=(la:Int):=(by omega);have t7:(k:Int)-1=(m:Int):=(by omega);rw[hR,jeh (by omega)]at HT;clear hR lP HID ch pU hm Qp qB pt;go_wp2_with fail;try rw[hV]
      clear hV;go_quiet (fail)
      go_wp2_with fail;go_ret
      rw[HT.o];exact⟨rfl,ar (ai ce.o aN.o) _⟩
     ·rw[jeh (λh=>by rcases HID.o.1 h with h | h;(· exact ch h);(· exact Gt h))]at lP
      have VE:decide ((k:Int) > 0)=false/\k=0∨decide ((k:Int) > 0)=true/\∃ m la:Nat,k=m+1/\¬ f0<=la/\V.cell? ⟨b,off+m*4,none⟩=some (.int .u32 (la:Int)):=by
       by_cases qB:k=0
       ·exact Or.inl ⟨jeu (by omega),qB⟩
       ·obtain⟨m,hm⟩:∃ m,k=m+1:=⟨k-1,by omega⟩
        obtain⟨la,Qp,eX⟩:=pU.o m hm;exact Or.inr ⟨jeB (by omega),m,la,hm,λh=>Gt ⟨by omega,by rw[Qp];exact h⟩,eX⟩
      have HK0:jgf (decide (k=0)=((k:Int)==0)):=ae (by
       by_cases h:k=0
       ·rw[jeB h,h];rfl
       ·rw[jeu h,jev.2 (by omega)])
      clear Gt ch HID pU;rcases VE with ⟨t1,qB⟩ | ⟨t1,m,la,hm,pt,eX⟩
      ·have t1':¬ (k:Int) > 0:=by omega
       have t1n:decide (0<k)=false:=jeu (by omega);have t1m:¬ 0<k:=(by omega);have HKZ:=ae qB;clear qB;go_wp2_with fail;try rw[hV]
       clear hV;go_quiet (fail)
       obtain⟨⟨_,g1⟩,_⟩:=et.o V (jej _ _);go_wp2_with fail;cases hnm:named f1 with
       | false =>
        rw[hnm]at MH lD;have hR:R=80:=by rw[lP.o,lD.o];rfl
        rw[hR,jeh (by omega)]at HT;clear hR lP hnm;have sN:∀ s:bQ (λx=>Below V.heap.size V x),s.w.cell? ⟨wr.heap.size,1,none⟩=some (.string f1):=λs=>(et.o s.w s.ok).1.2
        have nw:∀ s:bQ (λx=>Below V.heap.size V x),s.w.cell? ⟨w.heap.size,1,none⟩=some (.slice (some ⟨b,off,none⟩) l.length cap):=λs=>(et.o s.w s.ok).1.1
        haveI:Nonempty (bQ (λx=>Below V.heap.size V x)):=⟨bQ.mk V (jej _ _)⟩
        refine cz (S:=λx=>Below V.heap.size V x) (by kernel_rfl) (by kernel_rfl) (ar (jej _ _) _).drew ?_;repeat (go_big_quiet_step (first | (go_at_call 49;exact(MH.o _ (bQ.ok _)).mono (λe w' h=>⟨h.1,bQ.mk w' h.2.1,rfl⟩)) | (go_at_call 50;exact(Ro.o _ (bQ.ok _)).mono (λe w' h=>⟨h.1,_,h.2⟩))))
        refine wpQuiet_nil ?_;rintro _ ⟨s2,rfl⟩;obtain⟨w2,pR⟩:∃ x,x=s2.w:=⟨_,rfl⟩;have aE:=s2.ok;rw[← pR]at aE ⊢;have fX:=ae aE;clear pR aE sN nw;go_wp2_with fail;go_ret
        rw[HT.o];exact⟨rfl,by first | exact ai (ai ce.o aN.o) fX.o | exact ar (ai (ai ce.o aN.o) fX.o) _⟩
       | true =>
        rw[hnm]at MH lD;clear hnm;cases hha:pp (l.take k) f1 with
        | true =>
         rw[hha]at Ro lD;have hR:R=80:=by rw[lP.o,lD.o];rfl
         rw[hR,jeh (by omega)]at HT;clear hR lP hha;have sN:∀ s:bQ (λx=>Below V.heap.size V x),s.w.cell? ⟨wr.heap.size,1,none⟩=some (.string f1):=λs=>(et.o s.w s.ok).1.2
         have nw:∀ s:bQ (λx=>Below V.heap.size V x),s.w.cell? ⟨w.heap.size,1,none⟩=some (.slice (some ⟨b,off,none⟩) l.length cap):=λs=>(et.o s.w s.ok).1.1
         haveI:Nonempty (bQ (λx=>Below V.heap.size V x)):=⟨bQ.mk V (jej _ _)⟩
         refine cz (S:=λx=>Below V.heap.size V x) (by kernel_rfl) (by kernel_rfl) (ar (jej _ _) _).drew ?_;repeat (go_big_quiet_step (first | (go_at_call 49;exact(MH.o _ (bQ.ok _)).mono (λe w' h=>⟨h.1,bQ.mk w' h.2.1,rfl⟩)) | (go_at_call 50;exact(Ro.o _ (bQ.ok _)).mono (λe w' h=>⟨h.1,_,h.2⟩))))
         refine wpQuiet_nil ?_;rintro _ ⟨s2,rfl⟩;obtain⟨w2,pR⟩:∃ x,x=s2.w:=⟨_,rfl⟩;have aE:=s2.ok;rw[← pR]at aE ⊢;have fX:=ae aE;clear pR aE sN nw;go_wp2_with fail;go_ret
         rw[HT.o];exact⟨rfl,by first | exact ai (ai ce.o aN.o) fX.o | exact ar (ai (ai ce.o aN.o) fX.o) _⟩
        | false =>
         rw[hha]at Ro lD;rw[lD.o,jeh (by simp)]at lP;clear hha;have sN:∀ s:bQ (λx=>Below V.heap.size V x),s.w.cell? ⟨wr.heap.size,1,none⟩=some (.string f1):=λs=>(et.o s.w s.ok).1.2
         have nw:∀ s:bQ (λx=>Below V.heap.size V x),s.w.cell? ⟨w.heap.size,1,none⟩=some (.slice (some ⟨b,off,none⟩) l.length cap):=λs=>(et.o s.w s.ok).1.1
         haveI:Nonempty (bQ (λx=>Below V.heap.size V x)):=⟨bQ.mk V (jej _ _)⟩
         refine cz (S:=λx=>Below V.heap.size V x) (by kernel_rfl) (by kernel_rfl) (ar (jej _ _) _).drew ?_;repeat (go_big_quiet_step (first | (go_at_call 49;exact(MH.o _ (bQ.ok _)).mono (λe w' h=>⟨h.1,bQ.mk w' h.2.1,rfl⟩)) | (go_at_call 50;exact(Ro.o _ (bQ.ok _)).mono (λe w' h=>⟨h.1,_,h.2⟩))))
         refine wpQuiet_nil ?_;rintro _ ⟨s2,rfl⟩;obtain⟨w2,pR⟩:∃ x,x=s2.w:=⟨_,rfl⟩;have aE:=s2.ok;rw[← pR]at aE ⊢;have fX:=ae aE;clear pR aE sN nw;obtain⟨_,y2,y3⟩:=et.o _ fX.o;by_cases yg:ld f2=false
         ·rw[jei yg]at lP
          rw[lP.o,jeh (by omega)]at HT
          have hkd':f2=0∨3<f2:=by
           unfold ld at yg;have:=of_decide_eq_false yg;omega
          clear lP yg;rcases hkd' with q | q
          ·have q1:(f2:Int)<1:=by omega
           clear q;go_wp2_with fail;go_ret
           rw[HT.o];exact⟨rfl,by first | exact ai (ai ce.o aN.o) fX.o | exact ar (ai (ai ce.o aN.o) fX.o) _⟩
          ·have q1:¬ (f2:Int)<1:=by omega
           have q2:(f2:Int) > 3:=(by omega);clear q;go_wp2_with fail;go_ret
           rw[HT.o];exact⟨rfl,by first | exact ai (ai ce.o aN.o) fX.o | exact ar (ai (ai ce.o aN.o) fX.o) _⟩
         ·rw[jeh yg]at lP
          have hkd':1<=f2/\f2<=3:=by
           unfold ld at yg;simpa using yg
          have q1:¬ (f2:Int)<1:=(by omega);have q2:¬ (f2:Int) > 3:=(by omega);clear yg hkd';have t0:((k:Int)==0)=true:=by rw[HKZ.o];rfl
          cases f3
          ·have hR:R=82:=by rw[lP.o,jei (Or.inl (by rw[HKZ.o];rfl))]
           rw[hR,jeh (by omega)]at HT;clear hR lP;go_wp2_with fail;go_ret
           rw[HT.o];exact⟨rfl,by first | exact ai (ai ce.o aN.o) fX.o | exact ar (ai (ai ce.o aN.o) fX.o) _⟩
          ·by_cases h2:f2=2
           ·have hR:R=82:=by rw[lP.o,jei (Or.inr ⟨HKZ.o,h2⟩)]
            have h2':((f2:Int)==2)=true:=by rw[h2];rfl
            rw[hR,jeh (by omega)]at HT;clear hR lP h2;go_wp2_with fail;go_ret
            rw[HT.o];exact⟨rfl,by first | exact ai (ai ce.o aN.o) fX.o | exact ar (ai (ai ce.o aN.o) fX.o) _⟩
           ·have hR:R=0:=by rw[lP.o,jeh (λh=>by rcases h with h | ⟨_,h⟩;(· rw[HKZ.o]at h;cases h);(· exact h2 h))]
            have h2':((f2:Int)==2)=false:=jev.2 (by omega);rw[jei hR]at HT;clear hR lP h2;go_wp2_with fail;go_roundw
            case rel=>exact⟨k+1,by omega,by go_num,HT.o,by first | exact ai aN.o fX.o | exact ar (ai aN.o fX.o) _⟩
            case measure=>simp[intOf];omega
      ·have t1':(k:Int) > 0:=by omega
       have t1n:decide (0<k)=true:=jeB (by omega);have t1m:0<k:=(by omega);have t2:IntKind.i64.wrap ((k:Int)-1)=(m:Int):=by rw[jeV];omega
       have t3:(0:Int)<=(m:Int):=(by omega);have t4:(m:Int)<(l.length:Int):=(by omega);have t5:((m:Int)).toNat=m:=(by omega);have t6:decide ((f0:Int)<=(la:Int))=false:=jeu (by omega);have t6':¬ (f0:Int)<=(la:Int):=(by omega);have t7:(k:Int)-1=(m:Int):=(by omega);clear hm pt;go_wp2_with fail;try rw[hV]
       clear hV;go_quiet (fail)
       obtain⟨⟨_,g1⟩,_⟩:=et.o V (jej _ _);go_wp2_with fail;cases hnm:named f1 with
       | false =>
        rw[hnm]at MH lD;have hR:R=80:=by rw[lP.o,lD.o];rfl
        rw[hR,jeh (by omega)]at HT;clear hR lP hnm;have sN:∀ s:bQ (λx=>Below V.heap.size V x),s.w.cell? ⟨wr.heap.size,1,none⟩=some (.string f1):=λs=>(et.o s.w s.ok).1.2
        have nw:∀ s:bQ (λx=>Below V.heap.size V x),s.w.cell? ⟨w.heap.size,1,none⟩=some (.slice (some ⟨b,off,none⟩) l.length cap):=λs=>(et.o s.w s.ok).1.1
        haveI:Nonempty (bQ (λx=>Below V.heap.size V x)):=⟨bQ.mk V (jej _ _)⟩
        refine cz (S:=λx=>Below V.heap.size V x) (by kernel_rfl) (by kernel_rfl) (ar (jej _ _) _).drew ?_;repeat (go_big_quiet_step (first | (go_at_call 49;exact(MH.o _ (bQ.ok _)).mono (λe w' h=>⟨h.1,bQ.mk w' h.2.1,rfl⟩)) | (go_at_call 50;exact(Ro.o _ (bQ.ok _)).mono (λe w' h=>⟨h.1,_,h.2⟩))))
        refine wpQuiet_nil ?_;rintro _ ⟨s2,rfl⟩;obtain⟨w2,pR⟩:∃ x,x=s2.w:=⟨_,rfl⟩;have aE:=s2.ok;rw[← pR]at aE ⊢;have fX:=ae aE;clear pR aE sN nw;go_wp2_with fail;go_ret
        rw[HT.o];exact⟨rfl,by first | exact ai (ai ce.o aN.o) fX.o | exact ar (ai (ai ce.o aN.o) fX.o) _⟩
       | true =>
        rw[hnm]at MH lD;clear hnm;cases hha:pp (l.take k) f1 with
        | true =>
         rw[hha]at Ro lD;have hR:R=80:=by rw[lP.o,lD.o];rfl
         rw[hR,jeh (by omega)]at HT;clear hR lP hha;have sN:∀ s:bQ (λx=>Below V.heap.size V x),s.w.cell? ⟨wr.heap.size,1,none⟩=some (.string f1):=λs=>(et.o s.w s.ok).1.2
         have nw:∀ s:bQ (λx=>Below V.heap.size V x),s.w.cell? ⟨w.heap.size,1,none⟩=some (.slice (some ⟨b,off,none⟩) l.length cap):=λs=>(et.o s.w s.ok).1.1
         haveI:Nonempty (bQ (λx=>Below V.heap.size V x)):=⟨bQ.mk V (jej _ _)⟩
         refine cz (S:=λx=>Below V.heap.size V x) (by kernel_rfl) (by kernel_rfl) (ar (jej _ _) _).drew ?_;repeat (go_big_quiet_step (first | (go_at_call 49;exact(MH.o _ (bQ.ok _)).mono (λe w' h=>⟨h.1,bQ.mk w' h.2.1,rfl⟩)) | (go_at_call 50;exact(Ro.o _ (bQ.ok _)).mono (λe w' h=>⟨h.1,_,h.2⟩))))
         refine wpQuiet_nil ?_;rintro _ ⟨s2,rfl⟩;obtain⟨w2,pR⟩:∃ x,x=s2.w:=⟨_,rfl⟩;have aE:=s2.ok;rw[← pR]at aE ⊢;have fX:=ae aE;clear pR aE sN nw;go_wp2_with fail;go_ret
         rw[HT.o];exact⟨rfl,by first | exact ai (ai ce.o aN.o) fX.o | exact ar (ai (ai ce.o aN.o) fX.o) _⟩
        | false =>
         rw[hha]at Ro lD;rw[lD.o,jeh (by simp)]at lP;clear hha;have sN:∀ s:bQ (λx=>Below V.heap.size V x),s.w.cell? ⟨wr.heap.size,1,none⟩=some (.string f1):=λs=>(et.o s.w s.ok).1.2
         have nw:∀ s:bQ (λx=>Below V.heap.size V x),s.w.cell? ⟨w.heap.size,1,none⟩=some (.slice (some ⟨b,off,none⟩) l.length cap):=λs=>(et.o s.w s.ok).1.1
         haveI:Nonempty (bQ (λx=>Below V.heap.size V x)):=⟨bQ.mk V (jej _ _)⟩
         refine cz (S:=λx=>Below V.heap.size V x) (by kernel_rfl) (by kernel_rfl) (ar (jej _ _) _).drew ?_;repeat (go_big_quiet_step (first | (go_at_call 49;exact(MH.o _ (bQ.ok _)).mono (λe w' h=>⟨h.1,bQ.mk w' h.2.1,rfl⟩)) | (go_at_call 50;exact(Ro.o _ (bQ.ok _)).mono (λe w' h=>⟨h.1,_,h.2⟩))))
         refine wpQuiet_nil ?_;rintro _ ⟨s2,rfl⟩;obtain⟨w2,pR⟩:∃ x,x=s2.w:=⟨_,rfl⟩;have aE:=s2.ok;rw[← pR]at aE ⊢;have fX:=ae aE;clear pR aE sN nw;obtain⟨_,y2,y3⟩:=et.o _ fX.o;by_cases yg:ld f2=false
         ·rw[jei yg]at lP
          rw[lP.o,jeh (by omega)]at HT
          have hkd':f2=0∨3<f2:=by
           unfold ld at yg;have:=of_decide_eq_false yg;omega
          clear lP yg;rcases hkd' with q | q
          ·have q1:(f2:Int)<1:=by omega
           clear q;go_wp2_with fail;go_ret
           rw[HT.o];exact⟨rfl,by first | exact ai (ai ce.o aN.o) fX.o | exact ar (ai (ai ce.o aN.o) fX.o) _⟩
          ·have q1:¬ (f2:Int)<1:=by omega
           have q2:(f2:Int) > 3:=(by omega);clear q;go_wp2_with fail;go_ret
           rw[HT.o];exact⟨rfl,by first | exact ai (ai ce.o aN.o) fX.o | exact ar (ai (ai ce.o aN.o) fX.o) _⟩
         ·rw[jeh yg]at lP
          have hkd':1<=f2/\f2<=3:=by
           unfold ld at yg;simpa using yg
          have q1:¬ (f2:Int)<1:=(by omega);have q2:¬ (f2:Int) > 3:=(by omega);clear yg hkd';have t0:((k:Int)==0)=false:=jev.2 (by omega);cases f3
          ·have hR:R=0:=by rw[lP.o,jeh (λh=>by rcases h with h | ⟨h,_⟩;(· rw[jeu (show ¬ k=0 by omega)]at h;cases h);(· omega))]
           rw[jei hR]at HT;clear hR lP;go_wp2_with fail;go_roundw
           case rel=>exact⟨k+1,by omega,by go_num,HT.o,by first | exact ai aN.o fX.o | exact ar (ai aN.o fX.o) _⟩
           case measure=>simp[intOf];omega
          ·have hR:R=82:=by rw[lP.o,jei (Or.inl (by rw[jeu (show ¬ k=0 by omega)];rfl))]
           rw[hR,jeh (by omega)]at HT;clear hR lP;go_wp2_with fail;go_ret
           rw[HT.o];exact⟨rfl,by first | exact ai (ai ce.o aN.o) fX.o | exact ar (ai (ai ce.o aN.o) fX.o) _⟩
   ·obtain rfl:k=l.length:=by omega
    have gi:¬ ((l.length:Nat):Int)<(l.length:Int):=(by omega);have HT:=ae (HF.o.trans (Rx l));clear HF;have d1:=(HB.o.cell (p:=⟨w.heap.size,1,none⟩) hz).trans c1;go_wp2_with fail;go_ret
    rw[HT.o];exact⟨rfl,ai ce.o HB.o⟩
def RawSt(T:Nat)(W:World)(p:Nat)(b:List Nat)(f:Nat)(a:Option Addr)(cap:Nat):Prop :=
 W.heap[p]?=some (.cells #[.slice a b.length cap,.int .i64 (f:Int)] T (0,0))/\b.length<=cap/\cap<=maxLen/\Bs b/\(a=none->cap=0) /\
  (0<b.length->∃ g off,a=some ⟨g,off,none⟩/\g<p/\∀ j (h:j<b.length),W.cell? ⟨g,off+j,none⟩=some (.int .u8 (b[j]:Int)))
theorem St.cells2{T:Nat}{W:World}{p:Nat}{b:List Nat}{f:Nat}(h:St T W p b f) :
  ∃ a cap,W.cell? ⟨p,0,none⟩=some (.slice a b.length cap)/\W.cell? ⟨p,1,none⟩=some (.int .i64 (f:Int))/\W.frozen? ⟨p,0,none⟩=false/\W.frozen? ⟨p,1,none⟩=false /\
   b.length<=cap/\cap<=9223372036854775807/\Sv W (.slice a b.length cap) (aF .u8 b)/\(a=none->cap=0)/\RawSt T W p b f a cap:=by
 have aB:=h.lt;obtain⟨a,cap,h1,h2,h3,h4,h5,h6⟩:=h
 have gX:Sv W (.slice a b.length cap) (aF .u8 b):=by
  refine⟨a,cap,by rw[ap],by rw[ap];omega,h3,h5,λh0=>?_⟩;rw[ap]at h0;obtain⟨g,off,e,hg,hc⟩:=h6 h0;refine⟨g,off,e,by omega,λj x hj=>?_⟩
  have hj':j<b.length:=by
   have:=(List.getElem?_eq_some_iff.1 hj).1;rwa[ap]at this
  rw[bU hj']at hj;rw[hc j hj'];exact hj
 exact⟨a,cap,by rw[ay h1];rfl,by rw[ay h1];rfl,by simp[World.frozen?,h1],by simp[World.frozen?,h1],h2,by unfold maxLen at h3;omega,gX,h5,h1,h2,h3,h4,h5,h6⟩
theorem FP{b b1:List Nat}{f i:Nat}{l:List Fd}(h:Rds DD b f (i,l) b1 0):Rds di b f (i,l) b1 (chk i l) :=
 h.bind ⟨λ_=>rfl,λh=>absurd rfl h⟩
theorem St.make{T:Nat}{w W:World}{a:Option Addr}{n cap:Nat}{b:List Nat}(hs:Sv w (.slice a n cap) (aF .u8 b))(hb:Bs b)(hB:Below w.heap.size w W) :
  St T (W.alloc (.cells #[.slice a b.length cap,.int .i64 ((0:Nat):Int)] T)) W.heap.size b 0:=by
 obtain⟨a',cap',e,h1,h2,h3,h4⟩:=hs;simp only[Value.slice.injEq]at e;obtain⟨rfl,rfl,rfl⟩:=e;rw[ap]at *;refine⟨a,cap,jeK W _,h1,h2,hb,h3,λh0=>?_⟩;obtain⟨g,off,e,hg,hc⟩:=h4 h0;refine⟨g,off,e,jeH hg hB.size,λj hj=>?_⟩;have hB':Below w.heap.size w (W.alloc (.cells #[.slice a b.length cap,.int .i64 ((0:Nat):Int)] T)):=hB.alloc hB.size _;rw[hB'.cell (p:=⟨g,off+j,none⟩) hg];exact hc j _ (bU hj)
theorem PR{w:World}{v:Value}{l:List Nat}(hs:Sv w v (aF .u8 l))(hl:l.length<=100000000) :
  Calls Tryz.prog 93 #[v] w (dA w l):=by
 have HS:=ae hs;obtain⟨ad,cap,rfl,h1,h2,h3,_⟩:=hs;rw[ap]at *;cases ad with
 | none =>
  have hc:=h3 rfl;subst hc;have qC:l=[]:=jeI (by omega);subst qC;have hq:(binOp .eql 30 (.slice none 0 0) (.slice none 0 0)).run Tryz.prog w=.ok (.bool true) w:=jfQ w 30 5 none 0 0 0 0 Tryz.underlying30;go_enter Tryz.func93,Tryz.ntmps93
  go_wp2_with fail;go_ret
  exact⟨⟨_,rfl,aD.nil _ _⟩,jej _ _⟩
 | some ad =>
  have HN:=ae (qQ w);have gj:=ae (HS.o.kept (ak w (.cells #[] 5)));clear h3;have hq:(binOp .eql 30 (.slice (some ad) l.length cap) (.slice none 0 0)).run Tryz.prog w=.ok (.bool false) w:=jfQ w 30 5 (some ad) l.length cap 0 0 Tryz.underlying30;go_enter Tryz.func93,Tryz.ntmps93
  go_wp2_with (first | (at_builtin;refine ax rfl _ _ rfl w.heap.size _ _ [] l rfl ?q1 rfl ?q2 ?c1 ?c2 ?_))
  case q1=>exact HN.o
  case q2=>exact gj.o
  case c1=>simp;omega
  case c2=>rw[jel];omega
  intro v3 w3 o3 aS;have dd:=ae o3;have bN:=ae ((ak w (.cells #[] 5)).trans aS);clear o3 aS;go_wp2_with fail;go_ret
  exact⟨⟨_,rfl,dd.o⟩,bN.o⟩
def yZ(b:List Nat):Nat×List Fd×List Nat×Nat :=
 match di b with
 | .ok ((id,l),r)=>(id,l,r,0)
 | .error c=>(0,[],[],c)
theorem Yt{b b':List Nat}{id:Nat}{l:List Fd}(h:Rds di b 0 (id,l) b' 0):yZ b=(id,l,b',0):=by
 have e:=h.1 rfl;rw[jei rfl]at e;unfold yZ;rw[e]
theorem Kr{b b':List Nat}{f id:Nat}{l:List Fd}(h:Rds di b 0 (id,l) b' f)(hf:f≠0):yZ b=(0,[],[],f):=by
 have e:=h.1 rfl;rw[jeh hf]at e;unfold yZ;rw[e]
def Yu(w:World)(R:Nat×List Fd×List Nat×Nat)(e:Ending)(w':World):Prop :=
 (∃ v u,e=.returned (.tuple #[.agg #[.int .u32 (R.1:Int),v],u,.int .i64 (R.2.2.2:Int)])/\ea w' w.heap.size v R.2.1/\aD w' w.heap.size u R.2.2.1)/\Below w.heap.size w w'
def Shr{α : Type}(m:List Nat->Except Nat (α×List Nat)):Prop:=∀ b x r,m b=.ok (x,r)->r.length<=b.length
theorem Shr.bind{α β : Type}{m:List Nat->Except Nat (α×List Nat)}{k:α->List Nat->Except Nat (β×List Nat)}(h:Shr m)(hk:∀ x,Shr (k x)):Shr (aC m k):=by
 intro b y r e;cases hm:m b with
 | error c=>rw[cE hm]at e;cases e
 | ok q =>
  obtain⟨x,s⟩:=q;rw[db hm]at e;exact jet (hk x s y r e) (h b x s hm)
theorem Shr.pure{α β : Type}(g:α->β)(x:α):Shr (λr=>.ok (g x,r)):=by
 intro b y r e;cases e
 exact jek _
theorem po(room:Nat):Shr (iy room):=by
 intro b x r e;unfold iy at e;split at e
 ·cases e
 ·split at e
  ·cases e
  ·cases e
   rw[jeR];omega
theorem PS(n:Nat):Shr (textR n):=by
 intro b x r e;unfold textR at e;split at e
 ·cases e
 ·cases e
  rw[jeR];omega
theorem Yv:Shr uX:=(po _).bind λi=>((po _).bind λn=>PS n).bind λs=>(po _).bind λk=>(po _).bind λn=>Shr.pure (λ_:Nat=>(i,s,k,decide (n=1))) 0
theorem FQ:∀ n,Shr (li n)
 | 0=>Shr.pure (λ_:Nat=>[]) 0
 | n+1=>(FQ n).bind λl=>Yv.bind λf=>Shr.pure (λ_:Nat=>l++[f]) 0
theorem Ks:Shr di :=
 ((po _).bind λi=>(po _).bind λn=>(FQ n).bind λl=>Shr.pure (λ_:Nat=>(i,l)) 0).bind λs=>by
  intro b x r e;simp only at e;split at e
  ·cases e;exact jek _
  ·cases e
theorem Yw{b b1:List Nat}{F:Nat}{x:Nat×List Fd}(h:Rds di b 0 x b1 F)(hF:F=0):b1.length<=b.length:=by
 have e:=h.1 rfl;rw[jei hF]at e;exact Ks _ _ _ e
def Uns(w:World)(q:Nat)(W:World)(b:List Nat)(f id:Nat)(v:Value)(l:List Fd):Prop :=
 St 200 W (w.heap.size+1) b f/\w.heap.size+1<q/\W.heap[w.heap.size]?=some (.cells #[.int .u32 0,.slice none 0 0] 25 (0,0)) /\
 W.heap[q]?=some (.cells #[.int .u32 (id:Int),v] 25 (0,0))/\Below w.heap.size w W/\ea W (w.heap.size+2) v l
theorem Uns.size{w W:World}{q f id:Nat}{b:List Nat}{v:Value}{l:List Fd}(h:Uns w q W b f id v l):q<W.heap.size:=(Array.getElem?_eq_some_iff.1 h.2.2.2.1).1
theorem Uns.kept{w W W':World}{q f id:Nat}{b:List Nat}{v:Value}{l:List Fd}(h:Uns w q W b f id v l)(hb:Below W.heap.size W W'):Uns w q W' b f id v l:=by
 have hz:=h.size;obtain⟨h1,h2,h3,h4,h5,h6⟩:=h;exact⟨h1.kept hb h1.lt,h2,(hb.block _ (by omega)).trans h3,(hb.block _ (by omega)).trans h4,h5.trans (hb.mono h5.size),h6.kept hb⟩
theorem Uns.call{w W W':World}{q f f' id:Nat}{b b':List Nat}{v:Value}{l:List Fd}(h:Uns w q W b f id v l)(hs:St 200 W' (w.heap.size+1) b' f')(hf:Fr (w.heap.size+1) W.heap.size W W'):Uns w q W' b' f' id v l:=by
 have hz:=h.size;obtain⟨h1,h2,h3,h4,h5,h6⟩:=h;exact⟨hs,h2,(hf.block _ (by omega) (by omega)).trans h3,(hf.block _ (by omega) (by omega)).trans h4,h5.trans (hf.below (by omega) h5.size),Fr.own hf h6 (by omega)⟩
theorem Uns.facts{w W:World}{q f id:Nat}{b:List Nat}{v:Value}{l:List Fd}(h:Uns w q W b f id v l) :
  (W.cell? ⟨q,0,none⟩=some (.int .u32 (id:Int))/\W.cell? ⟨q,1,none⟩=some v) /\
  (W.cell? ⟨w.heap.size,0,none⟩=some (.int .u32 0)/\W.cell? ⟨w.heap.size,1,none⟩=some (.slice none 0 0)) /\
  (W.frozen? ⟨w.heap.size,0,none⟩=false/\W.frozen? ⟨w.heap.size,1,none⟩=false):=by
 obtain⟨h1,h2,h3,h4,h5⟩:=h;refine⟨⟨?_,?_⟩,⟨?_,?_⟩,⟨?_,?_⟩⟩<;>first | (rw[ay h4];rfl) | (rw[ay h3];rfl) | (simp[World.frozen?,h3];done)
theorem Yx{b b1:List Nat}{f1 i:Nat}{l:List Fd}(h:Rds DD b 0 (i,l) b1 f1):Rds di b 0 (i,l) b1 (orf f1 (chk i l)):=by
 unfold orf;by_cases hf:f1=0
 ·rw[jei hf];subst hf;exact FP h
 ·rw[jeh hf];exact h.bind (Rds.dead (i,l) hf)
theorem Kt{w:World}{v:Value}{b:List Nat}(hs:Sv w v (aF .u8 b))(hb:Bs b)(hl:b.length<=90000000) :
  Calls Tryz.prog 96 #[v] w (Yu w (yZ b)):=by
 obtain⟨a,cap,rfl,aW,bC⟩:=hs.form1;rw[ap]at *;have HS0:=ae (St.make (T:=200) hs hb (ak w (.cells #[.int .u32 0,.slice none 0 0] 25)));have ch:(w.alloc (.cells #[.int .u32 0,.slice none 0 0] 25)).heap.size=w.heap.size+1:=jel _ _;have HH0:=ae ((ak (w.alloc (.cells #[.int .u32 0,.slice none 0 0] 25)) (.cells #[.slice a b.length cap,.int .i64 ((0:Nat):Int)] 200)).block w.heap.size (by omega) |>.trans (jeK w _));have ce:=ae (((ak w (.cells #[.int .u32 0,.slice none 0 0] 25))).alloc (by omega) (.cells #[.slice a b.length cap,.int .i64 ((0:Nat):Int)] 200));rw[ch]at HS0;clear hs;have hzW:((w.alloc (.cells #[.int .u32 0,.slice none 0 0] 25)).alloc (.cells #[.slice a b.length cap,.int .i64 ((0:Nat):Int)] 200)).heap.size=w.heap.size+2:=by rw[jel,ch]
 have HZW:=ae hzW;clear hzW;generalize hW:(w.alloc (.cells #[.int .u32 0,.slice none 0 0] 25)).alloc (.cells #[.slice a b.length cap,.int .i64 ((0:Nat):Int)] 200)=W at *;have hW':(w.alloc (.cells #[.int .u32 0,.slice none 0 0] 25)).alloc (.cells #[.slice a b.length cap,.int .i64 0] 200)=W:=hW;go_enter Tryz.func96,Tryz.ntmps96
 go_wp2_with fail;try rw[hW']
 clear hW hW' ch;refine(Kq HS0.o).mono ?_;rintro e w3 ⟨id,l,v,b',f',rfl,fW,lM,kW,iY,lB,hr3,iJ⟩;obtain⟨va,vcap,hv,_,_⟩:=aO fW;subst hv
 have HU4:jgf (Uns w w3.heap.size (w3.alloc (.cells #[.int .u32 (id:Int),.slice va l.length vcap] 25)) b' f' id (.slice va l.length vcap) l):=by
  have hz:=HZW.o;have iN:=iJ.size;have aS:=ak w3 (.cells #[.int .u32 (id:Int),.slice va l.length vcap] 25);refine ae ⟨lB.kept aS lB.lt,by omega,(aS.block _ (by omega)).trans ((iJ.block _ (by omega) (by omega)).trans HH0.o),jeK w3 _,(ce.o.trans (iJ.below (by omega) (by omega))).trans (aS.mono (by omega)),?_⟩;rw[hz]at fW;exact fW.kept aS
 have sQ:=ae (Yx hr3);have HID:=ae lM;clear fW lB hr3 iJ iY lM;obtain⟨⟨c0,c1⟩,⟨d0,d1⟩,⟨z0,z1⟩⟩:=HU4.o.facts;have HQL:jgf (w3.heap.size<(w3.alloc (.cells #[.int .u32 (id:Int),.slice va l.length vcap] 25)).heap.size):=ae (by rw[jel];omega);go_wp2_with fail;generalize hq:w3.heap.size=q at *;generalize hX:w3.alloc (.cells #[.int .u32 (id:Int),.slice va l.length vcap] 25)=X at *;try rw[hX]
 clear hX hq;refine(Av HU4.o.2.2.2.2.2.sf id).mono ?_;rintro e w5 ⟨rfl,bD⟩;have HU5:=ae (HU4.o.kept bD);clear bD;go_wp2_with fail;refine(mW HU5.o.1 (chk id l)).mono ?_;rintro e w6 ⟨rfl,yl,Rd⟩;have HU6:=ae (HU5.o.call yl Rd);clear yl Rd c0 c1 d0 d1 z0 z1 HU5 HU4;generalize orf f' (chk id l)=F at *;obtain⟨⟨c0,c1⟩,⟨d0,d1⟩,⟨z0,z1⟩⟩:=HU6.o.facts;obtain⟨ra,rcap,r0,r1,r2,r3,r4,r5,r6,_,_⟩:=HU6.o.1.cells2;have yk:=ae r6;have HQ:=ae HU6.o.2.1;have jcQ:¬ w.heap.size=w.heap.size+1:=by omega
 have zq:¬ w.heap.size+1=w.heap.size:=by omega
 have hne3:¬ w.heap.size=q:=by have:=HQ.o;omega
 have jcy:¬ q=w.heap.size:=by have:=HQ.o;omega
 clear r6 r4 r5;by_cases hF:F=0
 ·have hFa:((F:Int) != 0)=false:=by simp[hF]
  have Qs:jgf (b'.length<=100000000):=ae (by have:=Yw sQ.o hF;omega)
  have HOKR:jgf (yZ b=(id,l,b',0)):=by
   have h:=sQ.o;rw[hF]at h;exact ae (Yt h)
  clear hF
  have pQ:jgf (∀ m,Calls Tryz.prog 93 #[.slice ra b'.length rcap] (w6.drewN m) λe w'=>∃ u,e=.returned u/\aD w' (w.heap.size+1) u b'/\Uns w q w' b' F id (.slice va l.length vcap) l/\(w'.cell? ⟨q,0,none⟩=some (.int .u32 (id:Int))/\w'.cell? ⟨q,1,none⟩=some (.slice va l.length vcap))/\(w'.frozen? ⟨w.heap.size,0,none⟩=false/\w'.frozen? ⟨w.heap.size,1,none⟩=false)/\(w'.cell? ⟨w.heap.size,0,none⟩=some (.int .u32 0)/\w'.cell? ⟨w.heap.size,1,none⟩=some (.slice none 0 0))/\w'.cell? ⟨w.heap.size+1,0,none⟩=some (.slice ra b'.length rcap)):=ae (λm=>by
   have nC:Below w6.heap.size w6 (w6.drewN m):=ar (jej w6.heap.size w6) m;refine(PR (yk.o.kept nC) Qs.o).mono ?_;rintro e w' ⟨⟨u,rfl,ou⟩,hb'⟩;have aE:=ai nC hb';have hu:=HU6.o.kept aE;obtain⟨e0,e1,e2⟩:=hu.facts;refine⟨u,rfl,?_,hu,e0,e2,e1,(aE.cell (p:=⟨w.heap.size+1,0,none⟩) HU6.o.1.lt).trans r0⟩;have hz:w.heap.size+1<=(w6.drewN m).heap.size:=jet (jeJ HU6.o.1.lt) nC.size;exact bg ou hz)
  go_wp2_with fail
  go_region_held3 (λw'=>w'.cell? ⟨q,0,none⟩=some (.int .u32 (id:Int))/\w'.cell? ⟨q,1,none⟩=some (.slice va l.length vcap)/\w'.cell? ⟨w.heap.size+1,0,none⟩=some (.slice ra b'.length rcap)) (first | assumption | go_keep) (first
   | (go_at_call 93;refine(pQ.o _).mono ?_;rintro e w7 ⟨u7,rfl,o7,hu7,⟨g0,g1⟩,⟨g2,g3⟩,⟨g4,g5⟩,g6⟩;have iI:=ae o7;have HU7:=ae hu7;clear o7 hu7))
  go_wp2_with fail;refine bodyPost_ret (v:=.tuple #[.agg #[.int .u32 (id:Int),.slice va l.length vcap],u7,.int .i64 ((0:Nat):Int)]) (by simp[results,Tryz.results96,go_sem,g4,g5]) rfl ?_;rw[HOKR.o];refine⟨⟨_,_,rfl,(ER HU7.o.2.2.2.2.2 (by omega) _ _).low (by omega),?_⟩,qr HU7.o.2.2.2.2.1 (jek _) _ _⟩;exact bg (Fr.own (((Fr.refl w.heap.size w7.heap.size w7).set 0 _).set 1 _) iI.o (by omega)) (by omega)
 ·have hFa:((F:Int) != 0)=true:=by simp[hF]
  have HER:=ae (Kr sQ.o hF);clear hF;go_wp2_with fail;go_region
  go_wp2_with fail;refine bodyPost_ret (v:=.tuple #[.agg #[.int .u32 ((0:Nat):Int),.slice none 0 0],.slice none 0 0,.int .i64 (F:Int)]) (by simp[results,Tryz.results96,go_sem,d0,d1]) rfl ?_;rw[HER.o];exact⟨⟨_,_,rfl,ea.nil _ _,aD.nil _ _⟩,(qr HU6.o.2.2.2.2.1 (jek _) _ _).drew⟩
end Go.Proofs.YtpljdjmpamjkhaaGreatDoor
