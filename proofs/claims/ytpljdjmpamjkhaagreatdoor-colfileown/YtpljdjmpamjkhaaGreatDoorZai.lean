/- Count, First, Above, Like; the document's First. Patterns. -/
import Derived.Test.YtpljdjmpamjkhaaGreatDoorZah
set_option linter.unusedVariables false
set_option linter.unusedSimpArgs false
set_option maxRecDepth 100000
set_option maxHeartbeats 1000000
namespace Go.Proofs.YtpljdjmpamjkhaaGreatDoor
open Go.RowKit Go.Lib
theorem count_any (s:ByteArray) (hs:s.size<=100000) (w:World) :
  Calls Tryz.prog 188 #[.string s] w fun e w'=>e=.returned (.int .i64 (V (lb s)).length)/\Below w.heap.size w w':=by
 have hL:=lb_size s
 have hV:=V_le (lb s)
 go_enter Tryz.func188,Tryz.ntmps188
 go_wp2
 go_loopw [3] (fun n w'=>∃ p k:Nat,w'=w.iter s p/\n=.int .i64 k/\At (lb s) p k) (fun _ w'=>s.size-w'.iterPos w.heap.size)
 case atStart=>exact ⟨0,0,rfl,rfl,At.zero _⟩
 case round =>
  obtain ⟨p,k,rfl,rfl,hat⟩:=hrel
  by_cases hp:p<s.size
  ·have hnx:∀ ty,(Instr.next (.pointer (some ⟨w.heap.size,0,none⟩)) true ty).run Tryz.prog (w.iter s p)=_:=fun ty=>run_next_any w s p ty hp
   rw [decode_lb] at hnx
   have hk:=hat.len (by omega)
   have hw:=unit_width _ (drop_ne (l:=lb s) (p:=p) (by omega))
   have hn:=hat.next (by omega)
   clear hat
   go_wp2
   go_roundw
   case rel=>exact ⟨_,k+1,rfl,by go_num,hn⟩
   case measure=>simp;omega
  ·have hnx:∀ ty,(Instr.next (.pointer (some ⟨w.heap.size,0,none⟩)) true ty).run Tryz.prog (w.iter s p)=_:=fun ty=>run_next_end w s p ty hp
   have HE:Hid (k=(V (lb s)).length/\p=(lb s).length):=hat.end (by omega)
   clear hat
   go_wp2
   go_ret
   exact ⟨ret_int (by rw [HE.out.1]),below_iter _ _ _⟩
def firstL (l:List UInt8) (n:Int):List UInt8:=l.take (offs (V l) n.toNat)
theorem offs_all (u:List (Nat×Nat)) (k:Nat) (h:u.length<=k):offs u k=offs u u.length:=by
 unfold offs
 rw [List.take_of_length_le h,List.take_length]
theorem first_any (s:ByteArray) (n:Int) (hs:s.size<=100000) (w:World) :
  Calls Tryz.prog 147 #[.string s,.int .i64 n] w fun e w'=>(∃ t,e=.returned (.string t)/\lb t=firstL (lb s) n)/\Below w.heap.size w w':=by
 have hL:=lb_size s
 have hV:=V_le (lb s)
 go_enter Tryz.func147,Tryz.ntmps147
 go_wp2
 go_loopw [5] (fun m w'=>∃ p k:Nat,w'=w.iter s p/\m=.int .i64 k/\At (lb s) p k/\(k=0∨(k:Int)<=n)) (fun _ w'=>s.size-w'.iterPos w.heap.size)
 case atStart=>exact ⟨0,0,rfl,rfl,At.zero _,Or.inl rfl⟩
 case round =>
  obtain ⟨p,k,rfl,rfl,hat,hkn⟩:=hrel
  by_cases hp:p<s.size
  ·have hnx:∀ ty,(Instr.next (.pointer (some ⟨w.heap.size,0,none⟩)) true ty).run Tryz.prog (w.iter s p)=_:=fun ty=>run_next_any w s p ty hp
   rw [decode_lb] at hnx
   have hk:=hat.len (by omega)
   have hw:=unit_width _ (drop_ne (l:=lb s) (p:=p) (by omega))
   have hn:=hat.next (by omega)
   have HPO:Hid (p=offs (V (lb s)) k):=hat.2.2.1
   clear hat
   by_cases hg:(k:Int)>=n
   ·go_wp2_with fail
    go_ret
    refine ⟨⟨_,rfl,?_⟩,below_iter _ _ _⟩
    have hnk:n.toNat=k:=by omega
    rw [firstL,hnk,← HPO.out,lb_extract]
    simp
   ·go_wp2_with fail
    go_roundw
    case rel=>exact ⟨_,k+1,rfl,by go_num,hn,Or.inr (by omega)⟩
    case measure=>simp;omega
  ·have hnx:∀ ty,(Instr.next (.pointer (some ⟨w.heap.size,0,none⟩)) true ty).run Tryz.prog (w.iter s p)=_:=fun ty=>run_next_end w s p ty hp
   have HE:Hid (k=(V (lb s)).length/\p=(lb s).length):=hat.end (by omega)
   have HPO:Hid (p=offs (V (lb s)) k):=hat.2.2.1
   clear hat
   go_wp2_with fail
   go_ret
   refine ⟨⟨_,rfl,?_⟩,below_iter _ _ _⟩
   rw [firstL]
   have hpo:=HPO.out
   have he:=HE.out
   have hge:(lb s).length<=offs (V (lb s)) n.toNat:=by
    by_cases hk0:(V (lb s)).length<=n.toNat
    ·rw [offs_all _ _ hk0,← HE.out.1,← HPO.out];omega
    ·have:k=0:=by omega
     rw [this] at hpo
     simp at hpo
     omega
   rw [List.take_of_length_le hge]
def nx (r:Nat):Nat:=if r=55295 then 57344 else r+1
theorem nx_vr {r:Nat} (h:vr r) (hg:r≠1114111):vr (nx r):=by
 unfold vr nx at *
 split<;>omega
theorem next_any (r:Nat) (h:r<=1114111) (w:World):Calls Tryz.prog 216 #[.int .i32 (r:Int)] w fun e w'=>e=.returned (.int .i32 (nx r:Int))/\w'=w:=by
 by_cases h1:r=55295
 ·subst h1
  go_enter Tryz.func216,Tryz.ntmps216
  go_wp2_with fail
  go_ret
  exact ⟨rfl,rfl⟩
 ·have h2:((r:Int)==55295)=false:=by simp;omega
  go_enter Tryz.func216,Tryz.ntmps216
  go_wp2_with fail
  go_ret
  refine ⟨ret_int ?_,rfl⟩
  unfold nx
  rw [if_neg h1]
  go_num
def lastG (u:List (Nat×Nat)):Nat->Option Nat
 | 0=>none
 | k+1=>if (u.getD k (0,0)).1=1114111 then lastG u k else some k
theorem lastG_lt {u:List (Nat×Nat)}:∀ {k i:Nat},lastG u k=some i->i<k/\(u.getD i (0,0)).1≠1114111:=by
 intro k
 induction k with
 | zero=>intro i h;cases h
 | succ k ih =>
  intro i h
  simp only [lastG] at h
  split at h
  ·have:=ih h;exact ⟨by omega,this.2⟩
  ·obtain rfl:=Option.some.inj h
   rename_i h2
   exact ⟨by omega,h2⟩
def upL (l:List UInt8) (k:Nat):Option (List UInt8):=(lastG (V l) k).map fun i=>l.take (offs (V l) i)++encL (nx ((V l).getD i (0,0)).1)
def raisedL (l:List UInt8):Option (List UInt8):=upL l (V l).length
def Place (u:List (Nat×Nat)) (k:Nat) (p c:Int):Prop :=
 match lastG u k with
 | none=>p=-1
 | some i=>p=offs u i/\c=nx (u.getD i (0,0)).1
theorem getD_unit {l:List UInt8} {p k:Nat} (h:At l p k) (hp:p<l.length):(V l).getD k (0,0)=unit (l.drop p):=by
 rw [List.getD_eq_getElem?_getD,h.get hp];rfl
theorem lb_append (a b:ByteArray):lb (a++b)=lb a++lb b:=by
 simp [lb,ByteArray.data_append]
theorem lb_eq (s:ByteArray):lb s=s.data.toList:=rfl
theorem lb_encode {c:Nat} (h:vr c):lb (Utf8.encode (c:Int))=encL c:=by
 rw [lb_eq]
 exact encode_eq c h
def Tells (e:Ending) (x:Option (List UInt8)):Prop:=∃ t o,e=.returned (.tuple #[.string t,.bool o])/\o=x.isSome/\lb t=x.getD []
theorem raised_any (s:ByteArray) (hs:s.size<=100000) (w:World) :
  Calls Tryz.prog 189 #[.string s] w fun e w'=>Tells e (raisedL (lb s))/\Below w.heap.size w w':=by
 have hL:=lb_size s
 have hV:=V_le (lb s)
 have HEx:=hidden (lb_extract s)
 have HAp:=hidden lb_append
 go_enter Tryz.func189,Tryz.ntmps189
 go_wp2_with fail
 go_loopw [4,5] (fun a c w'=>∃ (p k:Nat) (x y:Int),w'=w.iter s p/\a=.int .i64 x/\c=.int .i32 y/\At (lb s) p k/\Place (V (lb s)) k x y) (fun _ _ w'=>s.size-w'.iterPos w.heap.size)
 case atStart=>exact ⟨0,0,-1,1114111,rfl,rfl,rfl,At.zero _,rfl⟩
 case round =>
  obtain ⟨p,k,x,y,rfl,rfl,rfl,hat,hpl⟩:=hrel
  by_cases hp:p<s.size
  ·have hnx:∀ ty,(Instr.next (.pointer (some ⟨w.heap.size,0,none⟩)) true ty).run Tryz.prog (w.iter s p)=_:=fun ty=>run_next_any w s p ty hp
   rw [decode_lb] at hnx
   have hw:=unit_width _ (drop_ne (l:=lb s) (p:=p) (by omega))
   have hvr:=unit_vr _ (drop_ne (l:=lb s) (p:=p) (by omega))
   have HN:=hidden (hat.next (by omega))
   have HPO:Hid (p=offs (V (lb s)) k):=hat.2.2.1
   have HG:=hidden (getD_unit hat (by omega))
   have HPL:=hidden hpl
   clear hat hpl
   generalize unit ((lb s).drop p)=u at *
   obtain ⟨c,wd⟩:=u
   simp only at *
   have hc:c<=1114111:=by unfold vr at hvr;omega
   clear hvr
   by_cases hg:c=1114111
   ·subst hg
    go_wp2_with fail
    go_roundw
    case rel =>
     refine ⟨_,k+1,x,y,rfl,rfl,rfl,HN.out,?_⟩
     have h1:=HPL.out
     unfold Place at h1 ⊢
     rw [lastG,HG.out,if_pos rfl]
     exact h1
    case measure=>simp;omega
   ·have hne:((c:Int) != 1114111)=true:=by simp;omega
    go_wp2_with fail
    refine (next_any c hc _).mono ?_
    rintro e w1 ⟨rfl,rfl⟩
    go_wp2_with fail
    go_roundw
    case rel =>
     refine ⟨_,k+1,_,_,rfl,rfl,rfl,HN.out,?_⟩
     unfold Place
     rw [lastG,HG.out,if_neg hg]
     simp only
     rw [HG.out]
     exact ⟨by rw [HPO.out],rfl⟩
    case measure=>simp;omega
  ·have hnx:∀ ty,(Instr.next (.pointer (some ⟨w.heap.size,0,none⟩)) true ty).run Tryz.prog (w.iter s p)=_:=fun ty=>run_next_end w s p ty hp
   have HE:=hidden (hat.end (by omega))
   clear hat
   obtain ⟨rfl,hpe⟩:=HE.out
   clear HE hpe
   unfold Place at hpl
   cases hlg:lastG (V (lb s)) (V (lb s)).length with
   | none =>
    rw [hlg] at hpl
    simp only at hpl
    subst hpl
    have HLG:=hidden hlg
    clear hlg
    go_wp2_with fail
    go_ret2
    refine ⟨⟨_,_,rfl,?_,?_⟩,below_iter _ _ _⟩
    ·rw [raisedL,upL,HLG.out];rfl
    ·rw [raisedL,upL,HLG.out];rfl
   | some i =>
    rw [hlg] at hpl
    simp only at hpl
    obtain ⟨rfl,rfl⟩:=hpl
    have HLG:=hidden hlg
    have hil:=lastG_lt hlg
    have hoi:=(offs_le (l:=lb s) i (by omega)).1
    have hvx:vr (nx ((V (lb s)).getD i (0,0)).1):=by
     refine nx_vr ?_ hil.2
     have hi2:i<(V (lb s)).length:=hil.1
     rw [List.getD_eq_getElem?_getD,List.getElem?_eq_getElem hi2]
     exact (V_vr _ _ (Nat.le_refl _) _ (List.getElem_mem hi2)).1
    have HE:=hidden (lb_encode hvx)
    clear hlg hil hvx
    generalize ho:offs (V (lb s)) i=o at *
    have HO:Hid (offs (V (lb s)) i=o):=ho
    clear ho
    generalize hc:nx ((V (lb s)).getD i (0,0)).1=c at *
    have HC:Hid (nx ((V (lb s)).getD i (0,0)).1=c):=hc
    clear hc
    generalize hE:Utf8.encode (c:Int)=E at *
    have hEs:E.size<=4:=by rw [← lb_size,HE.out];exact (encL_pos c).2
    have hXs:(s.extract 0 o).size<=100000:=by rw [← lb_size,HEx.out];simp;omega
    have hneg:¬ (o:Int)<0:=by omega
    have hcv:∀ w,(convert 21 9 (.int .i32 (c:Int))).run Tryz.prog w=.ok (.string E) w:=fun w=>by
     rw [run_convert_int_string w 21 9 .i32 c (by kernel_rfl) Tryz.underlying9,hE]
    clear hE
    have hadd:∀ w,(Op.stringOp .add (s.extract 0 o) E).run Tryz.prog w=.ok (.string (s.extract 0 o++E)) w:=fun w=>run_string_add_sum w _ _ (by omega)
    go_wp2_with fail
    go_ret2
    refine ⟨⟨_,_,rfl,?_,?_⟩,below_iter _ _ _⟩
    ·rw [raisedL,upL,HLG.out];rfl
    ·rw [raisedL,upL,HLG.out,HAp.out,HEx.out,HE.out,Option.map_some,HO.out,HC.out]
     simp
def aboveL (l:List UInt8) (n:Int):Option (List UInt8) :=
 if clean l=true then (if ((V l).length:Int)<=n then some l else raisedL (firstL l n)) else none
theorem firstL_len (l:List UInt8) (n:Int):(firstL l n).length<=l.length:=by
 unfold firstL;simp;omega
theorem above_any (s:ByteArray) (n:Int) (hs:s.size<=100000) (w:World) :
  Calls Tryz.prog 153 #[.string s,.int .i64 n] w fun e w'=>Tells e (aboveL (lb s) n)/\Below w.heap.size w w':=by
 have hL:=lb_size s
 have hV:=V_le (lb s)
 go_enter Tryz.func153,Tryz.ntmps153
 go_wp2_with fail
 refine (clean_any s hs _).mono ?_
 rintro e w1 ⟨rfl,hb1⟩
 have HX:Hid (aboveL (lb s) n=if clean (lb s)=true then (if ((V (lb s)).length:Int)<=n then some (lb s) else raisedL (firstL (lb s) n)) else none):=rfl
 cases hc:clean (lb s) with
 | false =>
  have HB:=hidden hb1
  rw [hc] at HX
  clear hb1 hc
  go_wp2_with fail
  go_ret2
  rw [HX.out]
  exact ⟨⟨_,_,rfl,rfl,rfl⟩,HB.out⟩
 | true =>
  have HB:=hidden hb1
  rw [hc] at HX
  have hz:=hb1.size
  clear hb1 hc
  go_wp2_with fail
  refine (count_any s hs _).mono ?_
  rintro e w2 ⟨rfl,hb2⟩
  have HB2:=hidden hb2
  have hz2:=hb2.size
  clear hb2
  by_cases hle:((V (lb s)).length:Int)<=n
  ·rw [if_pos hle] at HX
   go_wp2_with fail
   go_ret2
   rw [HX.out]
   exact ⟨⟨_,_,rfl,rfl,rfl⟩,HB.out.trans (HB2.out.mono hz)⟩
  ·rw [if_neg hle] at HX
   go_wp2_with fail
   refine (first_any s n hs _).mono ?_
   rintro e w3 ⟨⟨t,rfl,ht⟩,hb3⟩
   have HB3:=hidden hb3
   have hz3:=hb3.size
   have HT:=hidden ht
   have hts:t.size<=100000:=by
    have:=firstL_len (lb s) n
    rw [← ht,lb_size,lb_size] at this
    omega
   clear hb3 ht
   go_wp2_with fail
   refine (raised_any t hts _).mono ?_
   rintro e w4 ⟨⟨t2,o,rfl,ho,ht2⟩,hb4⟩
   have HB4:=hidden hb4
   have hz4:=hb4.size
   have H2:=hidden (And.intro ho ht2)
   clear hb4 ho ht2
   go_wp2_with fail
   go_ret2
   rw [HX.out]
   refine ⟨⟨t2,o,rfl,?_⟩,((HB.out.trans (HB2.out.mono hz)).trans (HB3.out.mono (by omega))).trans (HB4.out.mono (by omega))⟩
   simp only [if_true]
   rw [← HT.out]
   exact H2.out
end Go.Proofs.YtpljdjmpamjkhaaGreatDoor
set_option linter.unusedVariables false
set_option linter.unusedSimpArgs false
namespace Go.Proofs.YtpljdjmpamjkhaaGreatDoor
open Go.RowKit Go.Lib
def lk:List Nat->List Nat->Bool
 | [],t=>t.isEmpty
 | c::p,t=>if c=37 then (List.range (t.length+1)).any (fun j=>lk p (t.drop j)) else
   match t with
   | []=>false
   | x::t'=>(c==95 || c==x) && lk p t'
theorem below_drewN {B:Nat} {a w:World} (h:Below B a w) (q:Nat):Below B a (w.drewN q):=h.trans ⟨rfl,rfl,rfl,Nat.le_refl _,fun _ _=>rfl⟩
end Go.Proofs.YtpljdjmpamjkhaaGreatDoor
