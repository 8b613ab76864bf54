/- Slices and what they hold, whoever made them. The cells of values, as in layer 1. -/
import Derived.Test.YtpljdjmpamjkhaaGreatDoorZab
import Derived.Deep.Slices
set_option linter.unusedVariables false
set_option linter.unusedSimpArgs false
namespace Go.Proofs.YtpljdjmpamjkhaaGreatDoor
open Go.RowKit Go.Lib
def Sv (W:World) (v:Value) (xs:List Value):Prop :=
 ∃ a cap,v=.slice a xs.length cap/\xs.length<=cap/\cap<=maxLen/\(a=none->cap=0) /\
  (0<xs.length->∃ b off,a=some ⟨b,off,none⟩/\b<W.heap.size/\∀ j x,xs[j]?=some x->W.cell? ⟨b,off+j,none⟩=some x)
theorem Sv.kept {W W':World} {v:Value} {xs:List Value} (h:Sv W v xs) (hb:Below W.heap.size W W'):Sv W' v xs:=by
 obtain ⟨a,cap,rfl,h1,h2,h3,h4⟩:=h
 refine ⟨a,cap,rfl,h1,h2,h3,fun h0=>?_⟩
 obtain ⟨b,off,rfl,h5,h6⟩:=h4 h0
 exact ⟨b,off,rfl,Nat.lt_of_lt_of_le h5 hb.size,fun j x hj=>(hb.cell (p:=⟨b,off+j,none⟩) h5).trans (h6 j x hj)⟩
theorem Sv.nil (W:World):Sv W (.slice none 0 0) []:=⟨none,0,rfl,Nat.le_refl _,by unfold maxLen;omega,fun _=>rfl,fun h=>by simp at h⟩
theorem Sv.of_own {W:World} {B e n:Nat} {v:Value} {xs:List Value} (h:W.ownsRow B e 1 v n xs):Sv W v xs:=by
 have hl:xs.length=n:=by have:=h.1;simpa using this
 obtain ⟨_,h1⟩:=id h
 rcases h1 with ⟨rfl,rfl⟩ | ⟨g,cap,cur,rfl,hb,hg,h4,h5,_⟩
 ·exact ⟨none,0,by rw [hl],by omega,by unfold maxLen;omega,fun _=>rfl,fun h0=>by omega⟩
 ·refine ⟨_,cap,by rw [hl],by omega,h5,fun h=>(by cases h),fun _=>⟨g,0,rfl,(Array.getElem?_eq_some_iff.1 hg).1,fun j x hj=>?_⟩⟩
  have:=h.cells (g:=g) rfl j _ hj
  rw [add0] at this
  rwa [Nat.zero_add]
theorem Sv.len {W:World} {v:Value} {xs:List Value} (h:Sv W v xs):xs.length<=maxLen:=by obtain ⟨_,_,_,h1,h2,_⟩:=h;omega
theorem Sv.sx {k:IntKind} {W:World} {v:Value} {l:List Nat} (h:Sv W v (vals k l)):Sx k W v l:=by
 have hm:=h.len
 obtain ⟨a,cap,rfl,h1,h2,h3,h4⟩:=h
 rw [vals_length] at *
 refine ⟨a,cap,rfl,hm,fun h0=>?_⟩
 obtain ⟨b,off,rfl,h5,h6⟩:=h4 h0
 exact ⟨b,off,rfl,h5,fun j hj=>h6 j _ (vals_get hj)⟩
theorem vals_bytes (l:List UInt8):vals .u8 (l.map UInt8.toNat)=byteVals l:=by simp [vals,byteVals]
theorem bytes_vals {l:List Nat} (h:Bs l):byteVals (l.map Nat.toUInt8)=vals .u8 l:=by rw [← vals_bytes,map_fwd h]
theorem Sv.sl {W:World} {v:Value} {l:List Nat} (hb:Bs l) (h:Sv W v (vals .u8 l)):Sl W v (l.map Nat.toUInt8):=by
 rw [← bytes_vals hb] at h
 obtain ⟨a,cap,rfl,h1,h2,h3,h4⟩:=h
 rw [byteVals_length] at *
 refine ⟨a,cap,rfl,h1,h2,fun h0=>?_⟩
 obtain ⟨b,off,rfl,h5,h6⟩:=h4 h0
 exact ⟨b,off,rfl,h5,fun j hj=>h6 j _ (byteVals_get hj)⟩
theorem Sv.take {W:World} {a:Option Addr} {n cap:Nat} {xs:List Value} (h:Sv W (.slice a n cap) xs) {k:Nat} (hk:k<=xs.length):Sv W (.slice a k cap) (xs.take k):=by
 obtain ⟨a',c,h1,h2,h3,h4,h5⟩:=h
 simp only [Value.slice.injEq] at h1
 obtain ⟨rfl,_,rfl⟩:=h1
 have hl:(xs.take k).length=k:=by rw [List.length_take];omega
 refine ⟨_,cap,by rw [hl],by omega,h3,h4,fun h0=>?_⟩
 obtain ⟨b',off',h6,h7,h8⟩:=h5 (by omega)
 refine ⟨b',off',h6,h7,fun j x hj=>h8 j x ?_⟩
 have hjl:=(List.getElem?_eq_some_iff.1 hj).1
 rw [List.getElem?_take] at hj
 rwa [if_pos (by omega)] at hj
theorem Sv.drop {W:World} {b off n cap:Nat} {xs:List Value} (h:Sv W (.slice (some ⟨b,off,none⟩) n cap) xs) {k:Nat} (hk:k<=xs.length) {a:Addr} (ha:a=if cap=k then ⟨b,off,none⟩ else ⟨b,off+k,none⟩) :
  Sv W (.slice (some a) (n-k) (cap-k)) (xs.drop k):=by
 obtain ⟨a',c,h1,h2,h3,h4,h5⟩:=h
 simp only [Value.slice.injEq] at h1
 obtain ⟨rfl,rfl,rfl⟩:=h1
 have hl:(xs.drop k).length=xs.length-k:=by rw [List.length_drop]
 refine ⟨_,_,by rw [hl],by omega,by omega,fun h=>(by cases h),fun h0=>?_⟩
 obtain ⟨b',off',h6,h7,h8⟩:=h5 (by omega)
 cases h6
 rw [if_neg (by omega)] at ha
 refine ⟨b,off+k,by rw [ha],h7,fun j x hj=>?_⟩
 rw [List.getElem?_drop] at hj
 have:=h8 (k+j) x hj
 rwa [← Nat.add_assoc] at this
def OwnB (W:World) (B:Nat) (v:Value) (bs:List Nat):Prop:=W.ownsRow B 5 1 v bs.length (vals .u8 bs)
theorem OwnB.nil (W:World) (B:Nat):OwnB W B (.slice none 0 0) []:=World.ownsRow_nil _ _ _ _
theorem OwnB.kept {w w':World} {B:Nat} {v:Value} {bs:List Nat} (h:OwnB w B v bs) (hb:Below w.heap.size w w'):OwnB w' B v bs:=own_kept h hb
theorem OwnB.sv {W:World} {B:Nat} {v:Value} {bs:List Nat} (h:OwnB W B v bs):Sv W v (vals .u8 bs):=Sv.of_own h
def Told (w:World) (bs:List Nat) (e:Ending) (w':World):Prop:=(∃ v,e=.returned v/\OwnB w' w.heap.size v bs)/\Below w.heap.size w w'
theorem wpList_append_sv {w:World} {ops:Array Oper} {rest:List Oper} {o:Oper} {a:Act} {Q:Exit->Act->World->Prop} (hgd:o.guard=none) (s x:Operand)
  (ho:o.op=.call { callee:=.builtin .append,args:=#[s,x],argTypes:=#[30,30] })
  (base:Nat) (v vx:Value) (l0 l:List Nat) (hs:a.eval s=v) (hown:OwnB w base v l0) (hx:a.eval x=vx) (hsl:Sv w vx (vals .u8 l))
  (hbytes:l0.length+l.length<=140737488355328) (hbase:base<=w.heap.size)
  (h:∀ v' w',OwnB w' base v' (l0++l)->Below base w w'->wpList Tryz.prog ops Q rest (a.put o.dst v') w') :
  wpList Tryz.prog ops Q (o::rest) a w:=by
 obtain ⟨i0,hi,hz0,hz1',hz2⟩:=info_parts info5
 unfold OwnB at *
 obtain ⟨ad,cap,rfl,h1,h2,h3,h4⟩:=hsl
 rw [vals_length] at *
 cases ad with
 | none =>
  have hc:=h3 rfl
  subst hc
  have hl:l=[]:=List.eq_nil_of_length_eq_zero (by omega)
  subst hl
  refine wpList_plain hgd fun K hK=>?_
  have hr:=run_append_owned_none (P:=Tryz.prog) (w:=w) base 30 o.type 5 i0 1 Tryz.underlying30 hi v l0.length (vals .u8 l0) hown
  unfold Oper.wp execOp
  simp only [ho,resolve,invoke,builtin,Sem.run_bind,Sem.run_pure,Result.andThen_ok,List.map_toArray,List.map_cons,List.map_nil,hs,hx,hr,List.length_nil]
  refine hK _ _ (h v w ?_ (Below.refl _ _))
  rw [List.append_nil]
  exact hown
 | some ad =>
  refine wpList_append_own_at (w:=w) hgd s x 30 ho base 5 i0 (.int .u8 0) 1 1 Tryz.underlying30 hi hz0 hz1' hz2 rfl (by decide) v l0.length (vals .u8 l0) hs hown ad l.length cap (vals .u8 l) hx (by rw [vals_length];omega) ?_ (vals_oneCell _ _) (by unfold maxLen;omega) (by omega) hbase ?_
  ·intro j u hu
   have hj:j<l.length:=by
    have:=(List.getElem?_eq_some_iff.1 hu).1
    rwa [vals_length] at this
   obtain ⟨b,off,h5,_,h6⟩:=h4 (by omega)
   cases h5
   rw [addj]
   exact h6 j u hu
  ·intro v' w' o1 g1 _ _
   refine h v' w' ?_ ((Below.refl base w).grown g1 hbase (fun k hk=>(hown.lt k hk).1))
   rw [vals_append,List.length_append]
   exact o1
def Fr (p B:Nat) (w w':World):Prop:=w'.os=w.os/\w'.tape=w.tape/\w'.output=w.output/\w.heap.size<=w'.heap.size/\∀ k,k<B->k≠p->w'.heap[k]?=w.heap[k]?
theorem Fr.os {p B:Nat} {w w':World} (h:Fr p B w w'):w'.os=w.os:=h.1
theorem Fr.tape {p B:Nat} {w w':World} (h:Fr p B w w'):w'.tape=w.tape:=h.2.1
theorem Fr.output {p B:Nat} {w w':World} (h:Fr p B w w'):w'.output=w.output:=h.2.2.1
theorem Fr.size {p B:Nat} {w w':World} (h:Fr p B w w'):w.heap.size<=w'.heap.size:=h.2.2.2.1
theorem Fr.block {p B:Nat} {w w':World} (h:Fr p B w w'):∀ k,k<B->k≠p->w'.heap[k]?=w.heap[k]?:=h.2.2.2.2
theorem Fr.refl (p B:Nat) (w:World):Fr p B w w:=⟨rfl,rfl,rfl,Nat.le_refl _,fun _ _ _=>rfl⟩
theorem Fr.trans {p B:Nat} {a b c:World} (h:Fr p B a b) (k:Fr p B b c):Fr p B a c :=
 ⟨k.os.trans h.os,k.tape.trans h.tape,k.output.trans h.output,Nat.le_trans h.size k.size,fun i hi hp=>(k.block i hi hp).trans (h.block i hi hp)⟩
theorem Fr.mono {p B B':Nat} {w w':World} (h:Fr p B w w') (hB:B'<=B):Fr p B' w w':=⟨h.os,h.tape,h.output,h.size,fun k hk hp=>h.block k (Nat.lt_of_lt_of_le hk hB) hp⟩
theorem Fr.of_below {p B:Nat} {w w':World} (h:Below B w w'):Fr p B w w':=⟨h.os,h.tape,h.output,h.size,fun k hk _=>h.block k hk⟩
theorem Fr.below {p B B':Nat} {w w':World} (h:Fr p B w w') (hp:B'<=p) (hB:B'<=B):Below B' w w':=⟨h.os,h.tape,h.output,h.size,fun k hk=>h.block k (by omega) (by omega)⟩
theorem Fr.set {p B:Nat} {w w':World} (h:Fr p B w w') (i:Nat) (v:Value):Fr p B w (w'.setCell ⟨p,i,none⟩ v):=by
 have h1:Below 0 w' (w'.setCell ⟨p,i,none⟩ v):=(Below.refl 0 w').setCell (Nat.zero_le _) v
 exact ⟨h1.os.trans h.os,h1.tape.trans h.tape,h1.output.trans h.output,Nat.le_trans h.size h1.size,fun k hk hp=>(Below.heap_setCell _ _ _ _ hp).trans (h.block k hk hp)⟩
theorem Fr.own {p:Nat} {w w':World} {B e size n:Nat} {v:Value} {xs:List Value} (hf:Fr p w.heap.size w w') (h:w.ownsRow B e size v n xs) (hp:p<B):w'.ownsRow B e size v n xs:=by
 obtain ⟨hl,h⟩:=h
 refine ⟨hl,?_⟩
 rcases h with h | ⟨g,cap,cur,h1,h2,h3,h4⟩
 ·exact Or.inl h
 ·have hg:g<w.heap.size:=(Array.getElem?_eq_some_iff.1 h3).1
  exact Or.inr ⟨g,cap,cur,h1,h2,(hf.block g hg (by omega)).trans h3,h4⟩
theorem heap_set {W:World} {p T:Nat} {c:Array Value} (h:W.heap[p]?=some (.cells c T (0,0))) (i:Nat) (v:Value):(W.setCell ⟨p,i,none⟩ v).heap[p]?=some (.cells (c.setIfInBounds i v) T (0,0)):=heap_setCell_same W p i c T v h
theorem cell_block {W:World} {p T:Nat} {c:Array Value} {fz:Nat×Nat} (h:W.heap[p]?=some (.cells c T fz)) (i:Nat):W.cell? ⟨p,i,none⟩=c[i]?:=by
 simp [World.cell?,h]
def orf (f e:Nat):Nat:=if f=0 then e else f
theorem Fr.then {p B:Nat} {w w1 w2:World} (h:Fr p B w w1) (hb:Below B w1 w2):Fr p B w w2:=h.trans (Fr.of_below hb)
theorem orf_zero (e:Nat):orf 0 e=e:=rfl
theorem orf_keep {f:Nat} (h:f≠0) (e:Nat):orf f e=f:=by unfold orf;rw [if_neg h]
theorem Sv.conv {W:World} {v:Value} {l:List Nat} (h:Sv W v (vals .u8 l)) (hb:Bs l):(convert 30 9 v).run Tryz.prog W=.ok (txt l) W:=h.sx.conv hb
theorem bytes_eq {a b:List Nat} (ha:Bs a) (hb:Bs b):a.map Nat.toUInt8=b.map Nat.toUInt8↔a=b:=by
 constructor
 ·intro h
  rw [← map_fwd ha,← map_fwd hb,h]
 ·intro h
  rw [h]
theorem Sv.form1 {W:World} {v:Value} {xs:List Value} (h:Sv W v xs):∃ a cap,v=.slice a xs.length cap/\xs.length<=cap/\cap<=maxLen:=by
 obtain ⟨a,cap,h1,h2,h3,_⟩:=h
 exact ⟨a,cap,h1,h2,h3⟩
theorem Sv.at1 {W:World} {a:Option Addr} {n cap:Nat} {xs:List Value} (h:Sv W (.slice a n cap) xs) {k:Nat} {x:Value} (hk:xs[k]?=some x) :
  ∃ b off,a=some ⟨b,off,none⟩/\b<W.heap.size/\W.cell? ⟨b,off+k,none⟩=some x:=by
 obtain ⟨a',cap',e,h1,h2,h3,h4⟩:=h
 have hlt:=(List.getElem?_eq_some_iff.1 hk).1
 simp only [Value.slice.injEq] at e
 obtain ⟨rfl,_,_⟩:=e
 obtain ⟨b,off,rfl,h5,h6⟩:=h4 (by omega)
 exact ⟨b,off,rfl,h5,h6 k x hk⟩
theorem below_one (w:World) (o:Obj):Below w.heap.size w (w.alloc o):=(Below.refl _ _).alloc (Nat.le_refl _) _
theorem below_then {a w w2:World} (h:Below a.heap.size a w) (h2:Below w.heap.size w w2):Below a.heap.size a w2:=h.trans (h2.mono h.size)
theorem lit_bytes (w:World) (l:List Nat) (hl:l.length<=maxLen):OwnB (w.alloc (.cells (vals .u8 l).toArray 5)) w.heap.size (.slice (some ⟨w.heap.size,0,none⟩) l.length l.length) l:=by
 have:=World.ownsRow_lit (e:=5) (size:=1) w (vals .u8 l).toArray l.length (base:=w.heap.size) (Nat.le_refl _) hl (by simp [vals])
 exact this
theorem lit_none (w:World):OwnB (w.alloc (.cells #[] 5)) w.heap.size (.slice (some ⟨w.heap.size,0,none⟩) 0 0) []:=lit_bytes w [] (by unfold maxLen;simp)
theorem own_low {W:World} {B B' e size n:Nat} {v:Value} {xs:List Value} (h:W.ownsRow B' e size v n xs) (hb:B<=B'):W.ownsRow B e size v n xs:=by
 obtain ⟨q1,q2⟩:=h
 refine ⟨q1,?_⟩
 rcases q2 with q | ⟨a1,a2,a3,a4,a5,a6⟩
 ·exact Or.inl q
 ·exact Or.inr ⟨a1,a2,a3,a4,Nat.le_trans hb a5,a6⟩
theorem own_slice {W:World} {B e size n:Nat} {v:Value} {xs:List Value} (h:W.ownsRow B e size v n xs):∃ a cap,v=.slice a n cap/\n<=cap/\cap<=maxLen:=by
 rcases h.2 with ⟨rfl,rfl⟩ | ⟨g,cap,cur,rfl,_,_,h1,h2,_⟩
 ·exact ⟨none,0,rfl,Nat.le_refl _,by unfold maxLen;omega⟩
 ·exact ⟨_,cap,rfl,h1,h2⟩
theorem bcell {W w1:World} (hb:Below W.heap.size W w1):(∀ b o,b<W.heap.size->w1.cell? ⟨b,o,none⟩=W.cell? ⟨b,o,none⟩)/\(∀ b o,b<W.heap.size->w1.frozen? ⟨b,o,none⟩=W.frozen? ⟨b,o,none⟩) :=
 ⟨fun b o h=>hb.cell (p:=⟨b,o,none⟩) h,fun b o h=>hb.frozen (p:=⟨b,o,none⟩) h⟩
theorem txt_eq (l:List Nat):txt l=.string (bytesT l):=rfl
end Go.Proofs.YtpljdjmpamjkhaaGreatDoor
set_option linter.unusedVariables false
set_option linter.unusedSimpArgs false
set_option maxHeartbeats 400000
namespace Go.Proofs.YtpljdjmpamjkhaaGreatDoor
open Go.RowKit Go.Lib
theorem ta_2_2 (v:Value) (w:World):(Instr.typeAssert (.iface 2 v) 78 2 true).run Tryz.prog w=.ok (.tuple #[v,.bool true]) w:=by kernel_rfl
theorem ta_4_2 (v:Value) (w:World):(Instr.typeAssert (.iface 4 v) 78 2 true).run Tryz.prog w=.ok (.tuple #[.int .i64 0,.bool false]) w:=by kernel_rfl
theorem ta_9_2 (v:Value) (w:World):(Instr.typeAssert (.iface 9 v) 78 2 true).run Tryz.prog w=.ok (.tuple #[.int .i64 0,.bool false]) w:=by kernel_rfl
theorem ta_4_4 (v:Value) (w:World):(Instr.typeAssert (.iface 4 v) 78 4 true).run Tryz.prog w=.ok (.tuple #[v,.bool true]) w:=by kernel_rfl
theorem ta_9_4 (v:Value) (w:World):(Instr.typeAssert (.iface 9 v) 78 4 true).run Tryz.prog w=.ok (.tuple #[.bool false,.bool false]) w:=by kernel_rfl
theorem ta_9_9 (v:Value) (w:World):(Instr.typeAssert (.iface 9 v) 78 9 true).run Tryz.prog w=.ok (.tuple #[v,.bool true]) w:=by kernel_rfl
theorem ta_n_2 (w:World):(Instr.typeAssert .nilIface 78 2 true).run Tryz.prog w=.ok (.tuple #[.int .i64 0,.bool false]) w:=by kernel_rfl
theorem ta_n_4 (w:World):(Instr.typeAssert .nilIface 78 4 true).run Tryz.prog w=.ok (.tuple #[.bool false,.bool false]) w:=by kernel_rfl
theorem ta_n_9 (w:World):(Instr.typeAssert .nilIface 78 9 true).run Tryz.prog w=.ok (.tuple #[.string ⟨#[]⟩,.bool false]) w:=by kernel_rfl
theorem cellOf_nil (w:World):Calls Tryz.prog 148 #[.nilIface] w fun e w'=>e=.returned (.tuple #[.agg #[.int .u8 0,.int .i64 0,.string ⟨#[]⟩],.bool true])/\Below w.heap.size w w':=by
 go_enter Tryz.func148,Tryz.ntmps148
 go_wp2
 exact bodyPost_ret (v:=.tuple #[.agg #[.int .u8 0,.int .i64 0,.string ⟨#[]⟩],.bool true]) (by simp [results,Tryz.results148,go_sem]) rfl ⟨rfl,(Below.refl _ _).alloc (Nat.le_refl _) _⟩
theorem cellOf_int (n:Int) (w:World):Calls Tryz.prog 148 #[.iface 2 (.int .i64 n)] w fun e w'=>e=.returned (.tuple #[.agg #[.int .u8 1,.int .i64 n,.string ⟨#[]⟩],.bool true])/\Below w.heap.size w w':=by
 have t1:=ta_2_2
 go_enter Tryz.func148,Tryz.ntmps148
 go_wp2
 exact bodyPost_ret (v:=.tuple #[.agg #[.int .u8 1,.int .i64 n,.string ⟨#[]⟩],.bool true]) (by simp [results,Tryz.results148,go_sem]) rfl ⟨rfl,(Below.refl _ _).alloc (Nat.le_refl _) _⟩
theorem cellOf_bool (b:Bool) (w:World):Calls Tryz.prog 148 #[.iface 4 (.bool b)] w fun e w'=>e=.returned (.tuple #[.agg #[.int .u8 2,.int .i64 (if b then 1 else 0),.string ⟨#[]⟩],.bool true])/\Below w.heap.size w w':=by
 have t1:=ta_4_2
 have t2:=ta_4_4
 cases b
 ·go_enter Tryz.func148,Tryz.ntmps148
  go_wp2
  exact bodyPost_ret (v:=.tuple #[.agg #[.int .u8 2,.int .i64 0,.string ⟨#[]⟩],.bool true]) (by simp [results,Tryz.results148,go_sem]) rfl ⟨rfl,(Below.refl _ _).alloc (Nat.le_refl _) _⟩
 ·go_enter Tryz.func148,Tryz.ntmps148
  go_wp2
  exact bodyPost_ret (v:=.tuple #[.agg #[.int .u8 2,.int .i64 1,.string ⟨#[]⟩],.bool true]) (by simp [results,Tryz.results148,go_sem]) rfl ⟨rfl,(Below.refl _ _).alloc (Nat.le_refl _) _⟩
theorem cellOf_string (s:ByteArray) (w:World):Calls Tryz.prog 148 #[.iface 9 (.string s)] w fun e w'=>e=.returned (.tuple #[.agg #[.int .u8 3,.int .i64 0,.string s],.bool true])/\Below w.heap.size w w':=by
 have t1:=ta_9_2
 have t2:=ta_9_4
 have t3:=ta_9_9
 go_enter Tryz.func148,Tryz.ntmps148
 go_wp2
 exact bodyPost_ret (v:=.tuple #[.agg #[.int .u8 3,.int .i64 0,.string s],.bool true]) (by simp [results,Tryz.results148,go_sem]) rfl ⟨rfl,(Below.refl _ _).alloc (Nat.le_refl _) _⟩
def Val (v:Value) (k n:Int) (s:ByteArray):Prop :=
 (v=.nilIface/\k=0/\n=0/\s=⟨#[]⟩)∨(v=.iface 2 (.int .i64 n)/\k=1/\s=⟨#[]⟩)∨(∃ b:Bool,v=.iface 4 (.bool b)/\k=2/\n=(if b then 1 else 0)/\s=⟨#[]⟩)∨(v=.iface 9 (.string s)/\k=3/\n=0)
theorem cellOf_any {v:Value} {k n:Int} {s:ByteArray} (h:Val v k n s) (w:World):Calls Tryz.prog 148 #[v] w fun e w'=>e=.returned (.tuple #[.agg #[.int .u8 k,.int .i64 n,.string s],.bool true])/\Below w.heap.size w w':=by
 rcases h with ⟨rfl,rfl,rfl,rfl⟩ | ⟨rfl,rfl,rfl⟩ | ⟨b,rfl,rfl,rfl,rfl⟩ | ⟨rfl,rfl,rfl⟩
 ·exact cellOf_nil w
 ·exact cellOf_int n w
 ·exact cellOf_bool b w
 ·exact cellOf_string s w
theorem cell_any {v:Value} {k n:Int} {s:ByteArray} (h:Val v k n s) (w:World):Calls Tryz.prog 145 #[v] w fun e w'=>e=.returned (.tuple #[.agg #[.int .u8 k,.int .i64 n,.string s],.bool true])/\Below w.heap.size w w':=by
 go_enter Tryz.func145,Tryz.ntmps145
 go_wp2_with fail
 refine (cellOf_any h _).mono ?_
 rintro e w1 ⟨rfl,hb⟩
 obtain ⟨hc,hf⟩:=bcell hb
 have hz:w.heap.size<w1.heap.size:=by have:=hb.size;simp at this;omega
 go_wp2_with fail
 refine bodyPost_ret (v:=.tuple #[.agg #[.int .u8 k,.int .i64 n,.string s],.bool true]) (by simp [results,Tryz.results145,go_sem,hc]) rfl ⟨rfl,?_⟩
 exact ((((((Below.refl _ _).alloc (Nat.le_refl _) _).trans (hb.mono (by simp))).setCell (by simp) _).setCell (by simp) _).setCell (by simp) _)
def nfit (k n:Int):Bool:=if (k==1)=true then true else if (k==2)=true then (if (n==0)=true then true else n==1) else n==0
def tx (k:Int) (s:ByteArray):Bool:=(k != 3) && !s.toList.isEmpty
def flt (k n:Int) (s:ByteArray):Int:=if 3<k then 10 else if tx k s=true then 1 else if nfit k n=false then 1 else if 64<(s.size:Int) then 5 else 0
theorem tx_false {k:Int} {s:ByteArray} (h:tx k s=false):(k != 3)=false∨(k != 3)=true/\s.toList.isEmpty=true:=by
 unfold tx at h
 cases h2:(k != 3)
 ·exact Or.inl rfl
 ·rw [h2] at h;right;simpa using h
theorem tx_true {k:Int} {s:ByteArray} (h:tx k s=true):(k != 3)=true/\s.toList.isEmpty=false:=by
 unfold tx at h
 rw [Bool.and_eq_true] at h
 exact ⟨h.1,by simpa using h.2⟩
theorem sEmpty {s:ByteArray} (h:s.toList.isEmpty=true):s=⟨#[]⟩:=by
 have h1:s.toList=[]:=by simpa using h
 have h2:s.data.toList=[]:=by rw [← ByteArray.toList_eq];exact h1
 cases s with
 | mk d=>congr;exact Array.toList_eq_nil_iff.mp h2
theorem check_any (k n:Int) (s:ByteArray) (h0:0<=k) (w:World):Calls Tryz.prog 114 #[.agg #[.int .u8 k,.int .i64 n,.string s]] w fun e w'=>e=.returned (.int .i64 (flt k n s))/\Below w.heap.size w w':=by
 by_cases h1:3<k
 ·rw [show flt k n s=10 by unfold flt;rw [if_pos h1]]
  clear h0
  go_enter Tryz.func114,Tryz.ntmps114
  go_wp2
  go_ret
  exact ⟨rfl,(Below.refl _ _).alloc (Nat.le_refl _) _⟩
 ·by_cases h2:tx k s=true
  ·rw [show flt k n s=1 by unfold flt;rw [if_neg h1,if_pos h2]]
   obtain ⟨h3,h4⟩:=tx_true h2
   have h5:k<=3:=by omega
   clear h0 h1 h2
   go_enter Tryz.func114,Tryz.ntmps114
   go_wp2
   go_ret
   exact ⟨rfl,(Below.refl _ _).alloc (Nat.le_refl _) _⟩
  ·have h3:=tx_false (by simpa using h2)
   by_cases h4:k=3
   ·subst h4
    clear h0 h1 h2 h3
    cases hn:(n==0)
    ·rw [show flt 3 n s=1 by unfold flt;simp [tx,nfit,hn]]
     have hn2:(n != 0)=true:=by simpa using hn
     go_enter Tryz.func114,Tryz.ntmps114
     go_wp2
     go_ret
     exact ⟨rfl,(Below.refl _ _).alloc (Nat.le_refl _) _⟩
    ·have hn2:(n != 0)=false:=by simpa using hn
     by_cases hs:64<(s.size:Int)
     ·rw [show flt 3 n s=5 by unfold flt;simp [tx,nfit,hn];omega]
      go_enter Tryz.func114,Tryz.ntmps114
      go_wp2
      go_ret
      exact ⟨rfl,(Below.refl _ _).alloc (Nat.le_refl _) _⟩
     ·rw [show flt 3 n s=0 by unfold flt;simp [tx,nfit,hn];omega]
      have hs2:(s.size:Int)<=64:=by omega
      clear hs
      go_enter Tryz.func114,Tryz.ntmps114
      go_wp2
      go_ret
      exact ⟨rfl,(Below.refl _ _).alloc (Nat.le_refl _) _⟩
   ·have h5:s=⟨#[]⟩:=by
     rcases h3 with h3 | h3
     ·simp at h3;omega
     ·exact sEmpty h3.2
    subst h5
    obtain rfl | rfl | rfl:k=0∨k=1∨k=2:=by omega
    ·clear h0 h1 h2 h3 h4
     cases hn:(n==0)
     ·rw [show flt 0 n ⟨#[]⟩=1 by unfold flt;simp [nfit,hn]]
      have hn2:(n != 0)=true:=by simpa using hn
      go_enter Tryz.func114,Tryz.ntmps114
      go_wp2
      go_ret
      exact ⟨rfl,(Below.refl _ _).alloc (Nat.le_refl _) _⟩
     ·rw [show flt 0 n ⟨#[]⟩=0 by unfold flt;simp [nfit,hn,tx,ByteArray.size]]
      have hn2:(n != 0)=false:=by simpa using hn
      go_enter Tryz.func114,Tryz.ntmps114
      go_wp2
      go_ret
      exact ⟨rfl,(Below.refl _ _).alloc (Nat.le_refl _) _⟩
    ·clear h0 h1 h2 h3 h4
     rw [show flt 1 n ⟨#[]⟩=0 by unfold flt;simp [nfit,tx,ByteArray.size]]
     go_enter Tryz.func114,Tryz.ntmps114
     go_wp2
     go_ret
     exact ⟨rfl,(Below.refl _ _).alloc (Nat.le_refl _) _⟩
    ·clear h0 h1 h2 h3 h4
     cases hn:(n==0)
     ·have hn2:(n != 0)=true:=by simpa using hn
      cases hm:(n==1)
      ·rw [show flt 2 n ⟨#[]⟩=1 by unfold flt;simp [nfit,hn,hm]]
       have hm2:(n != 1)=true:=by simpa using hm
       go_enter Tryz.func114,Tryz.ntmps114
       go_wp2
       go_ret
       exact ⟨rfl,(Below.refl _ _).alloc (Nat.le_refl _) _⟩
      ·rw [show flt 2 n ⟨#[]⟩=0 by unfold flt;simp [nfit,hn,hm,tx,ByteArray.size]]
       have hm2:(n != 1)=false:=by simpa using hm
       go_enter Tryz.func114,Tryz.ntmps114
       go_wp2
       go_ret
       exact ⟨rfl,(Below.refl _ _).alloc (Nat.le_refl _) _⟩
     ·rw [show flt 2 n ⟨#[]⟩=0 by unfold flt;simp [nfit,hn,tx,ByteArray.size]]
      have hn2:(n != 0)=false:=by simpa using hn
      go_enter Tryz.func114,Tryz.ntmps114
      go_wp2
      go_ret
      exact ⟨rfl,(Below.refl _ _).alloc (Nat.le_refl _) _⟩
theorem flt_zero {k n:Int} {s:ByteArray} (h0:0<=k) (h:flt k n s=0):(k=0/\n=0/\s=⟨#[]⟩)∨(k=1/\s=⟨#[]⟩)∨(k=2/\n=0/\s=⟨#[]⟩)∨(k=2/\n=1/\s=⟨#[]⟩)∨(k=3/\n=0/\s.size<=64):=by
 unfold flt at h
 by_cases h1:3<k
 ·rw [if_pos h1] at h;omega
 ·rw [if_neg h1] at h
  by_cases h2:tx k s=true
  ·rw [if_pos h2] at h;omega
  ·rw [if_neg h2] at h
   by_cases h3:nfit k n=false
   ·rw [if_pos h3] at h;omega
   ·rw [if_neg h3] at h
    by_cases h4:64<(s.size:Int)
    ·rw [if_pos h4] at h;omega
    ·have h5:=tx_false (by simpa using h2)
     have h6:k≠3->s=⟨#[]⟩:=by
      intro hk
      rcases h5 with h5 | h5
      ·simp at h5;omega
      ·exact sEmpty h5.2
     obtain rfl | rfl | rfl | rfl:k=0∨k=1∨k=2∨k=3:=by omega
     ·simp [nfit] at h3;exact Or.inl ⟨rfl,h3,h6 (by omega)⟩
     ·exact Or.inr (Or.inl ⟨rfl,h6 (by omega)⟩)
     ·simp [nfit] at h3
      by_cases hn:n=0
      ·exact Or.inr (Or.inr (Or.inl ⟨rfl,hn,h6 (by omega)⟩))
      ·exact Or.inr (Or.inr (Or.inr (Or.inl ⟨rfl,h3 hn,h6 (by omega)⟩)))
     ·simp [nfit] at h3;exact Or.inr (Or.inr (Or.inr (Or.inr ⟨rfl,h3,by omega⟩)))
theorem fix_bad (k n:Int) (s:ByteArray) (h0:0<=k) (h:(flt k n s != 0)=true) (w:World):Calls Tryz.prog 73 #[.agg #[.int .u8 k,.int .i64 n,.string s]] w fun e w'=>e=.returned (.agg #[.int .u8 0,.int .i64 0,.string ⟨#[]⟩])/\Below w.heap.size w w':=by
 go_enter Tryz.func73,Tryz.ntmps73
 go_wp2_with fail
 refine (check_any _ _ _ h0 _).mono ?_
 rintro e w1 ⟨rfl,hb⟩
 obtain ⟨hc,hf⟩:=bcell hb
 have hz:w.heap.size+1<w1.heap.size:=by have:=hb.size;simp at this;omega
 clear h0
 go_wp2_with fail
 refine bodyPost_ret (v:=.agg #[.int .u8 0,.int .i64 0,.string ⟨#[]⟩]) (by simp [results,Tryz.results73,go_sem,hc]) rfl ⟨rfl,?_⟩
 exact (((((((Below.refl _ _).alloc (Nat.le_refl _) _).alloc (by simp) _).trans (hb.mono (by simp;omega))).setCell (by simp) _).setCell (by simp) _).setCell (by simp) _)
theorem fix_good (k n:Int) (s:ByteArray) (h0:0<=k) (h:(flt k n s != 0)=false) (w:World):Calls Tryz.prog 73 #[.agg #[.int .u8 k,.int .i64 n,.string s]] w fun e w'=>e=.returned (.agg #[.int .u8 k,.int .i64 n,.string s])/\Below w.heap.size w w':=by
 go_enter Tryz.func73,Tryz.ntmps73
 go_wp2_with fail
 refine (check_any _ _ _ h0 _).mono ?_
 rintro e w1 ⟨rfl,hb⟩
 obtain ⟨hc,hf⟩:=bcell hb
 have hz:w.heap.size+1<w1.heap.size:=by have:=hb.size;simp at this;omega
 clear h0
 go_wp2_with fail
 refine bodyPost_ret (v:=.agg #[.int .u8 k,.int .i64 n,.string s]) (by simp [results,Tryz.results73,go_sem,hc]) rfl ⟨rfl,?_⟩
 exact (((((((Below.refl _ _).alloc (Nat.le_refl _) _).alloc (by simp) _).trans (hb.mono (by simp;omega))).setCell (by simp) _).setCell (by simp) _).setCell (by simp) _)
def fk (k n:Int) (s:ByteArray):Int:=if flt k n s=0 then k else 0
def fn (k n:Int) (s:ByteArray):Int:=if flt k n s=0 then n else 0
def fs (k n:Int) (s:ByteArray):ByteArray:=if flt k n s=0 then s else ⟨#[]⟩
theorem fixed_cases (k n:Int) (s:ByteArray) (h0:0<=k):(fk k n s=0/\fn k n s=0/\fs k n s=⟨#[]⟩)∨(fk k n s=1/\fs k n s=⟨#[]⟩)∨(fk k n s=2/\fn k n s=0/\fs k n s=⟨#[]⟩)∨(fk k n s=2/\fn k n s=1/\fs k n s=⟨#[]⟩)∨(fk k n s=3/\fn k n s=0/\(fs k n s).size<=64):=by
 unfold fk fn fs
 by_cases h:flt k n s=0
 ·simp only [if_pos h];exact flt_zero h0 h
 ·simp only [if_neg h];exact Or.inl (by simp)
theorem fix_any (k n:Int) (s:ByteArray) (h0:0<=k) (w:World):Calls Tryz.prog 73 #[.agg #[.int .u8 k,.int .i64 n,.string s]] w fun e w'=>e=.returned (.agg #[.int .u8 (fk k n s),.int .i64 (fn k n s),.string (fs k n s)])/\Below w.heap.size w w':=by
 unfold fk fn fs
 by_cases h:flt k n s=0
 ·simp only [if_pos h];exact fix_good k n s h0 (by simpa using h) w
 ·simp only [if_neg h];exact fix_bad k n s h0 (by simpa using h) w
theorem value_any (k n:Int) (s:ByteArray) (h0:0<=k) (w:World):Calls Tryz.prog 86 #[.agg #[.int .u8 k,.int .i64 n,.string s]] w fun e w'=>(∃ v,e=.returned v/\Val v (fk k n s) (fn k n s) (fs k n s))/\Below w.heap.size w w':=by
 have hf:=fix_any k n s h0
 have hx:=fixed_cases k n s h0
 generalize fk k n s=a at *
 generalize fn k n s=b at *
 generalize fs k n s=c at *
 have HF:Hid (∀ w:World,Calls Tryz.prog 73 #[.agg #[.int .u8 k,.int .i64 n,.string s]] w fun e w'=>e=.returned (.agg #[.int .u8 a,.int .i64 b,.string c])/\Below w.heap.size w w'):=hf
 clear hf h0
 obtain ⟨rfl,rfl,rfl⟩ | ⟨rfl,rfl⟩ | ⟨rfl,rfl,rfl⟩ | ⟨rfl,rfl,rfl⟩ | ⟨rfl,rfl,hs⟩:=hx
 ·go_enter Tryz.func86,Tryz.ntmps86
  go_wp2_with fail
  refine (HF.out _).mono ?_
  rintro e w1 ⟨rfl,hb⟩
  obtain ⟨hc,hf⟩:=bcell hb
  have hz:w.heap.size<w1.heap.size:=by have:=hb.size;simp at this;omega
  go_wp2_with fail
  go_ret
  exact ⟨⟨_,rfl,Or.inl ⟨rfl,rfl,rfl,rfl⟩⟩,((((((Below.refl _ _).alloc (Nat.le_refl _) _).trans (hb.mono (by simp))).setCell (by simp) _).setCell (by simp) _).setCell (by simp) _)⟩
 ·go_enter Tryz.func86,Tryz.ntmps86
  go_wp2_with fail
  refine (HF.out _).mono ?_
  rintro e w1 ⟨rfl,hb⟩
  obtain ⟨hc,hf⟩:=bcell hb
  have hz:w.heap.size<w1.heap.size:=by have:=hb.size;simp at this;omega
  go_wp2_with fail
  go_ret
  exact ⟨⟨_,rfl,Or.inr (Or.inl ⟨rfl,rfl,rfl⟩)⟩,((((((Below.refl _ _).alloc (Nat.le_refl _) _).trans (hb.mono (by simp))).setCell (by simp) _).setCell (by simp) _).setCell (by simp) _)⟩
 ·go_enter Tryz.func86,Tryz.ntmps86
  go_wp2_with fail
  refine (HF.out _).mono ?_
  rintro e w1 ⟨rfl,hb⟩
  obtain ⟨hc,hf⟩:=bcell hb
  have hz:w.heap.size<w1.heap.size:=by have:=hb.size;simp at this;omega
  go_wp2_with fail
  go_ret
  exact ⟨⟨_,rfl,Or.inr (Or.inr (Or.inl ⟨false,rfl,rfl,rfl,rfl⟩))⟩,((((((Below.refl _ _).alloc (Nat.le_refl _) _).trans (hb.mono (by simp))).setCell (by simp) _).setCell (by simp) _).setCell (by simp) _)⟩
 ·go_enter Tryz.func86,Tryz.ntmps86
  go_wp2_with fail
  refine (HF.out _).mono ?_
  rintro e w1 ⟨rfl,hb⟩
  obtain ⟨hc,hf⟩:=bcell hb
  have hz:w.heap.size<w1.heap.size:=by have:=hb.size;simp at this;omega
  go_wp2_with fail
  go_ret
  exact ⟨⟨_,rfl,Or.inr (Or.inr (Or.inl ⟨true,rfl,rfl,rfl,rfl⟩))⟩,((((((Below.refl _ _).alloc (Nat.le_refl _) _).trans (hb.mono (by simp))).setCell (by simp) _).setCell (by simp) _).setCell (by simp) _)⟩
 ·go_enter Tryz.func86,Tryz.ntmps86
  go_wp2_with fail
  refine (HF.out _).mono ?_
  rintro e w1 ⟨rfl,hb⟩
  obtain ⟨hc,hf⟩:=bcell hb
  have hz:w.heap.size<w1.heap.size:=by have:=hb.size;simp at this;omega
  go_wp2_with fail
  go_ret
  exact ⟨⟨_,rfl,Or.inr (Or.inr (Or.inr ⟨rfl,rfl,rfl⟩))⟩,((((((Below.refl _ _).alloc (Nat.le_refl _) _).trans (hb.mono (by simp))).setCell (by simp) _).setCell (by simp) _).setCell (by simp) _)⟩
theorem cells_three {W:World} {base:Nat} {a:Addr} {cs:List Value} (h:W.cells? base a 3=some cs):∃ c0 c1 c2,cs=[c0,c1,c2]/\W.cell? (a.add 0)=some c0/\W.cell? (a.add 1)=some c1/\W.cell? (a.add 2)=some c2:=by
 obtain ⟨_,hl,hc⟩:=World.cells?_some h
 match cs,hl with
 | [c0,c1,c2],_=>exact ⟨c0,c1,c2,rfl,by simpa using hc 0 (by omega),by simpa using hc 1 (by omega),by simpa using hc 2 (by omega)⟩
theorem info78:(Tryz.prog.info? 78).map (fun i=>(i.zero,i.size,i.bytes))=some (some .nilIface,1,16):=by kernel_rfl
end Go.Proofs.YtpljdjmpamjkhaaGreatDoor
