import Derived.Test.YteampbddflhngabGreatJ04

namespace Go.Proofs.YteampbddflhngabGreat
set_option maxRecDepth 100000
set_option maxHeartbeats 1000000
open Go.RowKit
variable {lo:Nat}
theorem Box.set{w:World}{b:Nat}{c:Array Value}{T:TypeId}(h:Box w b c T)(o:Nat)(u:Value):Box (w.setCell ⟨b,o,none⟩ u) b (c.setIfInBounds o u) T:=by
 unfold Box at *;simp[World.setCell,Array.getElem?_modify,h]
theorem Box.set_ne{w:World}{b b':Nat}{c:Array Value}{T:TypeId}(h:Box w b c T)(hne:b≠b')(o:Nat)(u:Value):Box (w.setCell ⟨b',o,none⟩ u) b c T:=by
 unfold Box at *;rw[Below.heap_setCell _ _ _ _ hne];exact h
theorem Box.push{wO w2:World}{b:Nat}{e T:TypeId}{s:Nat}{v:Value}{n bb:Nat}{xs:List Value}{c:Array Value}(hv:wO.ownsRow b e s v n xs)(hne:e≠T)(h:Box wO bb c T)
  (hk:∀ k,k < wO.heap.size->some k≠v.ownBlock->w2.heap[k]?=wO.heap[k]?):Box w2 bb c T:=by
 have hlt:=h.lt
 unfold Box at *
 rw[hk bb hlt ?_]
 ·exact h
 ·intro he
  obtain⟨_,⟨hv0,_⟩|⟨g',cap',cur',hv',_,hh',_⟩⟩:=hv
  ·subst hv0;cases he
  ·subst hv';simp only[Value.ownBlock,Option.some.injEq] at he;subst he;rw[h] at hh';simp at hh';exact hne hh'.2.symm
structure zoh (vb:Nat) (w w':World):Prop where
 size:w.heap.size<=w'.heap.size
 box:∀ b c T,b≠vb->T≠9->Box w b c T->Box w' b c T
theorem zoh.trans{vb:Nat}{a b c:World}(h:zoh vb a b)(k:zoh vb b c):zoh vb a c:=⟨Nat.le_trans h.size k.size,fun x y z h1 h2 h3=>k.box x y z h1 h2 (h.box x y z h1 h2 h3)⟩
theorem zoh.of{vb:Nat}{w w':World}(h:Below w.heap.size w w'):zoh vb w w':=⟨h.size,fun _ _ _ _ _ k=>k.below h⟩
def VA(B:Nat)(w:World)(vb:Nat)(vs:List ByteArray):Prop:=∃ nv,Box w vb #[nv] 124/\w.ownsRow B 9 1 nv vs.length (vs.map Value.string)
theorem VA.below{B:Nat}{w w':World}{vb:Nat}{vs:List ByteArray}(h:VA B w vb vs)(hb:Below w.heap.size w w'):VA B w' vb vs:=by
 obtain⟨nv,h1,h2⟩:=h;exact⟨nv,h1.below hb,zaa h2 hb⟩
theorem zxi(vs args:List ByteArray)(k:Nat)(hk:k < args.length):zer vs (args.take (k+1))=zrg (zer vs (args.take k)) args[k]:=by
 unfold zer;rw[List.take_succ_eq_append_getElem hk,List.foldl_append];rfl
theorem z3f{vs:List ByteArray}{t:ByteArray}(h1:zba t=true)(h2:zon t vs=false):zrg vs t=vs++[t]:=by simp[zrg,h1,h2]
theorem z3e{vs:List ByteArray}{t:ByteArray}(h1:zba t=false):zrg vs t=vs:=by simp[zrg,h1]
theorem z3c{vs:List ByteArray}{t:ByteArray}(h2:zon t vs=true):zrg vs t=vs:=by simp[zrg,h2]
theorem add_any(w0 w:World)(vb:Nat)(vs args:List ByteArray)(neg:Bool)(pred:ByteArray)(va:Value)(h0:Below w0.heap.size w0 w)(hs:SIn lo w0 va args)(hva:VA w0.heap.size w vb vs)(hvb:w0.heap.size<=vb)(hl:vs.length+args.length<=1000) :
  Calls Tryz.prog 83 #[.pointer (some ⟨vb,0,none⟩),.agg #[.bool neg,.string pred,va]] w fun e w'=>e=.returned (.tuple #[])/\VA w0.heap.size w' vb (zer vs args)/\Below w0.heap.size w0 w'/\zoh vb w w':=by
 obtain⟨i0,hi,hz0,hzs,hzb⟩:=info_parts Tryz.infoString
 obtain⟨ao,cap,rfl⟩:=hs.shape
 have hsz0:=h0.size
 go_enter Tryz.func83,Tryz.ntmps83
 go_wp2
 go_loopw [9] (fun i wr=>∃ k:Nat,k<=args.length/\i=.int .i64 k/\VA w0.heap.size wr vb (zer vs (args.take k))/\Below w0.heap.size w0 wr/\zoh vb w wr) (fun i _=>args.length - (intOf i).toNat)
 case atStart =>
  have hb:=(Below.refl w.heap.size w).alloc (Nat.le_refl _) (.cells #[.bool neg,.string pred,.slice ao args.length cap] 45)
  exact⟨0,Nat.zero_le _,rfl,hva.below hb,zae h0 hb (Nat.le_refl _),zoh.of hb⟩
 case round =>
  obtain⟨k,hk,rfl,hvk,hbk,hkk⟩:=hrel
  by_cases hlt:k < args.length
  ·obtain⟨g,rfl,hg,hck⟩:=(hs.below hbk).cell k hlt
   have hsn:=zxi vs args k hlt
   have hlen:=zkc (args.take k) vs
   have htk:(args.take k).length=k:=by simp;omega
   rw[htk] at hlen
   clear htk
   generalize args[k]=t at *
   generalize zer vs (args.take k)=vk at *
   have HS:Hid (zer vs (args.take (k+1))=zrg vk t):=hsn
   clear hsn
   cases hT:zba t with
   |false =>
    have hR:zer vs (args.take (k+1))=vk:=by rw[HS.out,z3e hT]
    have HR:Hid (zer vs (args.take (k+1))=vk):=hR
    clear hR HS
    go_wp2_with (go_at_call 98;refine(zbn _ _).mono ?_;rintro e w' ⟨rfl,rfl⟩)
    go_roundw
    case rel=>exact⟨k+1,by omega,by go_num,by rw[HR.out];exact hvk,hbk,hkk⟩
    case measure=>simp[intOf];omega
   |true =>
    obtain⟨nv,hbx,hown⟩:=hvk
    obtain⟨ao2,cap2,rfl⟩:=zab hown
    obtain⟨hc,hf⟩:=hbx.rules
    cases hM:zon t vk with
    |true =>
     have hR:zer vs (args.take (k+1))=vk:=by rw[HS.out,z3c hM]
     have HR:Hid (zer vs (args.take (k+1))=vk):=hR
     clear hR HS
     go_wp2_with (first|(go_at_call 98;refine(zbn _ _).mono ?_;rintro e w' ⟨rfl,rfl⟩)|(go_at_call 109;refine(zqo _ vb _ vk t hbx hown (by omega)).mono ?_;rintro e w' ⟨rfl,rfl⟩))
     go_roundw
     case rel=>exact⟨k+1,by omega,by go_num,by rw[HR.out];exact⟨_,hbx,hown⟩,hbk,hkk⟩
     case measure=>simp[intOf];omega
    |false =>
     have hR:zer vs (args.take (k+1))=vk++[t]:=by rw[HS.out,z3f hT hM]
     have HR:Hid (zer vs (args.take (k+1))=vk++[t]):=hR
     clear hR HS
     go_wp2_with (first|(go_at_call 98;refine(zbn _ _).mono ?_;rintro e w' ⟨rfl,rfl⟩)|(go_at_call 109;refine(zqo _ vb _ vk t hbx hown (by omega)).mono ?_;rintro e w' ⟨rfl,rfl⟩)|(at_builtin;refine zgw _ _ _ _ rfl (.tmp 25) (.tmp 27) 38 rfl w0.heap.size 9 i0 _ 1 16 Tryz.underlying38 hi hz0 hzs hzb rfl (by decide) _ _ _ rfl hown (Below.refl _ _) _ _ rfl (by simp) rfl (by simp[Value.oneCell']) (by omega) (by omega) hbk.size ?_;intro v' w2 ho2 hB2 hc2 hf2 hk2 hz2';clear hc2 hf2;obtain⟨ao3,cap3,rfl⟩:=zab ho2;have hbx2:=Box.push hown (by decide) hbx hk2;obtain⟨hc3,hf3⟩:=hbx2.rules))
     have hkb:zoh vb w' (w2.setCell ⟨vb,0,none⟩ (.slice ao3 (vk.length+1) cap3)):=⟨by simp[World.setCell];exact hz2',fun b c T h1 h2 h3=>(Box.push hown (Ne.symm h2) h3 hk2).set_ne h1 _ _⟩
     have hva2:VA w0.heap.size (w2.setCell ⟨vb,0,none⟩ (.slice ao3 (vk.length+1) cap3)) vb (vk++[t]):=⟨_,hbx2.set 0 _,by
      have:=zb4 ho2 ((But.refl vb w2).setCell 0 (.slice ao3 (vk.length+1) cap3)) hbx2 (by decide)
      simpa using this⟩
     go_roundw
     case rel=>exact⟨k+1,by omega,by go_num,by rw[HR.out];exact hva2,(hbk.trans hB2).setCell hvb _,hkk.trans hkb⟩
     case measure=>simp[intOf];omega
  ·have hE:args.take k=args:=List.take_of_length_le (by omega)
   rw[hE] at hvk
   clear hE
   go_wp2
   go_end0
   exact⟨rfl,hvk,hbk,hkk⟩
theorem LIn.cell{w:World}{ao:Option Addr}{n cap:Nat}{ls:List zbv}(h:LIn lo w (.slice ao n cap) ls)(k:Nat)(hk:k < ls.length):∃ g ao2 cap2,ao=some ⟨g,0,none⟩/\g < w.heap.size ∧
  w.cell? ⟨g,k * 3,none⟩=some (.bool ls[k].neg)/\w.cell? ⟨g,k * 3+1,none⟩=some (.string ls[k].pred)/\w.cell? ⟨g,k * 3+2,none⟩=some (.slice ao2 ls[k].args.length cap2)/\SIn lo w (.slice ao2 ls[k].args.length cap2) ls[k].args:=by
 obtain⟨xs,ho,hc⟩:=h
 obtain⟨g,cap',hv,_,hg,hcl⟩:=zas ho (by omega)
 simp at hv
 obtain⟨va,a1,a2,a3,a4⟩:=hc.at k ls[k] (by simp[hk])
 obtain⟨ao2,cap2,rfl⟩:=a4.shape
 exact⟨g,ao2,cap2,hv.1,hg,hcl _ _ a1,hcl _ _ a2,hcl _ _ a3,a4⟩
def zjw(vs:List ByteArray)(l:zbv):List ByteArray:=zer vs l.args
def zek(vs:List ByteArray)(l:zbv):List ByteArray:=if l.neg then vs else zer vs l.args
def zjn(c:zac):List ByteArray:=c.body.foldl zjw (zer [] c.head.args)
def zah(c:zac):List ByteArray:=c.body.foldl zek []
def zb9(ls:List zbv):Nat:=ls.foldr (fun l n=>l.args.length+n) 0
theorem zg5(ls:List zbv):∀ k,k < ls.length->zb9 (ls.take k)+(ls[k]?.map (·.args.length)).getD 0<=zb9 ls:=by
 induction ls with
 |nil=>intro k h;simp at h
 |cons a ls ih =>
  intro k h
  cases k with
  |zero=>simp[zb9]
  |succ k=>have:=ih k (by simpa using h);simp[zb9] at this ⊢;omega
theorem z07(ls:List zbv):∀ vs:List ByteArray,(ls.foldl zjw vs).length<=vs.length+zb9 ls:=by
 induction ls with
 |nil=>intro vs;simp[zb9]
 |cons a ls ih=>intro vs;have:=ih (zjw vs a);have:=zkc a.args vs;simp[zb9,zjw] at *;omega
theorem zi3(ls:List zbv):∀ vs:List ByteArray,(ls.foldl zek vs).length<=vs.length+zb9 ls:=by
 induction ls with
 |nil=>intro vs;simp[zb9]
 |cons a ls ih =>
  intro vs
  have h1:=ih (zek vs a)
  have h2:=zkc a.args vs
  have h3:(zek vs a).length<=vs.length+a.args.length:=by unfold zek;split <;> omega
  simp[zb9] at *;omega
theorem z5u(w:World)(c:zac)(va vb:Value)(hs:SIn lo w va c.head.args)(hb:LIn lo w vb c.body)(hl:c.head.args.length+zb9 c.body<=1000)(hl2:c.body.length<=1000) :
  Calls Tryz.prog 91 #[.agg #[.bool c.head.neg,.string c.head.pred,va,vb]] w fun e w'=>∃ nv,e=.returned (.agg #[nv])/\w'.ownsRow w.heap.size 9 1 nv (zjn c).length ((zjn c).map Value.string)/\Below w.heap.size w w':=by
 obtain⟨ao,cap,rfl⟩:=hs.shape
 obtain⟨aob,capb,rfl⟩:=hb.shape
 have hb0:Below w.heap.size w (((w.alloc (.cells #[.bool c.head.neg,.string c.head.pred,.slice ao c.head.args.length cap,.slice aob c.body.length capb] 90)).alloc (.cells #[.slice none 0 0] 124)).alloc (.cells #[.slice none 0 0] 124)):=(by go_grown)
 have hva0:VA w.heap.size (((w.alloc (.cells #[.bool c.head.neg,.string c.head.pred,.slice ao c.head.args.length cap,.slice aob c.body.length capb] 90)).alloc (.cells #[.slice none 0 0] 124)).alloc (.cells #[.slice none 0 0] 124)) (w.heap.size+2) []:=⟨_,by have:=Box.new ((w.alloc (.cells #[.bool c.head.neg,.string c.head.pred,.slice ao c.head.args.length cap,.slice aob c.body.length capb] 90)).alloc (.cells #[.slice none 0 0] 124)) #[.slice none 0 0] 124;simpa using this,World.ownsRow_nil _ _ _ _⟩
 have hres0:Box (((w.alloc (.cells #[.bool c.head.neg,.string c.head.pred,.slice ao c.head.args.length cap,.slice aob c.body.length capb] 90)).alloc (.cells #[.slice none 0 0] 124)).alloc (.cells #[.slice none 0 0] 124)) (w.heap.size+1) #[.slice none 0 0] 124:=by have:=(Box.new (w.alloc (.cells #[.bool c.head.neg,.string c.head.pred,.slice ao c.head.args.length cap,.slice aob c.body.length capb] 90)) #[.slice none 0 0] 124).below ((Below.refl _ _).alloc (Nat.le_refl _) (.cells #[.slice none 0 0] 124));simpa using this
 have hbx0:Box (((w.alloc (.cells #[.bool c.head.neg,.string c.head.pred,.slice ao c.head.args.length cap,.slice aob c.body.length capb] 90)).alloc (.cells #[.slice none 0 0] 124)).alloc (.cells #[.slice none 0 0] 124)) w.heap.size #[.bool c.head.neg,.string c.head.pred,.slice ao c.head.args.length cap,.slice aob c.body.length capb] 90:=((Box.new w _ _).below ((Below.refl _ _).alloc (Nat.le_refl _) _)).below ((Below.refl _ _).alloc (Nat.le_refl _) _)
 go_enter Tryz.func91,Tryz.ntmps91
 go_wp2_with (first|(go_at_call 83;refine(add_any w _ (w.heap.size+2) [] c.head.args _ _ _ (by exact hb0) hs (by exact hva0) (by omega) (by simp;omega)).mono ?_;rintro e w1 ⟨rfl,hva1,hb1,hk1⟩;have hres1:=hk1.box _ _ _ (by omega) (by decide) hres0;have hbx1:=hk1.box _ _ _ (by omega) (by decide) hbx0;obtain⟨hbc,hbf⟩:=hbx1.rules;have hsz1:=hbx1.lt))
 go_loopw [12] (fun i wr=>∃ k:Nat,k<=c.body.length/\i=.int .i64 k/\VA w.heap.size wr (w.heap.size+2) ((c.body.take k).foldl zjw (zer [] c.head.args))/\Below w.heap.size w wr/\Box wr (w.heap.size+1) #[.slice none 0 0] 124) (fun i _=>c.body.length - (intOf i).toNat)
 case atStart=>exact⟨0,Nat.zero_le _,rfl,hva1,hb1,hres1⟩
 case round =>
  obtain⟨k,hk,rfl,hvk,hbk,hrk⟩:=hrel
  have hszk:=hbk.size
  by_cases hlt:k < c.body.length
  ·obtain⟨g,ao2,cap2,rfl,hg,hc0,hc1,hc2,hsk⟩:=hb.cell k hlt
   have hd0:=(hbk.cell (p:=⟨g,k * 3,none⟩) hg).trans hc0
   have hd1:=(hbk.cell (p:=⟨g,k * 3+1,none⟩) hg).trans hc1
   have hd2:=(hbk.cell (p:=⟨g,k * 3+2,none⟩) hg).trans hc2
   have hgr:g < wr.heap.size:=by omega
   have hlen:=z07 (c.body.take k) (zer [] c.head.args)
   have hst:=zg5 c.body k hlt
   have hlen0:=zkc c.head.args []
   have hsn:(c.body.take (k+1)).foldl zjw (zer [] c.head.args)=zjw ((c.body.take k).foldl zjw (zer [] c.head.args)) c.body[k]:=by rw[List.take_succ_eq_append_getElem hlt,List.foldl_append];rfl
   rw[List.getElem?_eq_getElem hlt] at hst
   simp only[Option.map_some,Option.getD_some] at hst
   clear hc0 hc1 hc2
   generalize c.body[k]=a at *
   generalize (c.body.take k).foldl zjw (zer [] c.head.args)=vk at *
   have HS:Hid ((c.body.take (k+1)).foldl zjw (zer [] c.head.args)=zjw vk a):=hsn
   clear hsn
   go_wp2_with (first|(go_at_call 83;refine(add_any w _ (w.heap.size+2) vk a.args _ _ _ (by exact(by go_grown)) hsk (by exact hvk.below (by go_grown)) (by omega) (by simp at *;omega)).mono ?_;rintro e w1 ⟨rfl,hva1,hb1,hk1⟩;have hres1:=hk1.box _ _ _ (by omega) (by decide) (hrk.below (by go_grown))))
   go_roundw
   case rel=>exact⟨k+1,by omega,by go_num,by rw[HS.out];exact hva1,hb1,hres1⟩
   case measure=>simp[intOf];omega
  ·have hE:c.body.take k=c.body:=List.take_of_length_le (by omega)
   rw[hE] at hvk
   obtain⟨nv,hbx,hown⟩:=hvk
   obtain⟨ao3,cap3,rfl⟩:=zab hown
   obtain⟨hc,hf⟩:=hbx.rules
   obtain⟨hc2,hf2⟩:=hrk.rules
   have hz1:=hbx.lt
   clear hE
   go_wp2
   have ho2:=zb4 hown ((But.refl (w.heap.size+1) wr).setCell 0 (.slice ao3 (c.body.foldl zjw (zer [] c.head.args)).length cap3)) hrk (by decide)
   exact bodyPost_ret (v:=.agg #[.slice ao3 (c.body.foldl zjw (zer [] c.head.args)).length cap3]) (by simp[results,Tryz.results91,go_sem,hc2]) rfl ⟨_,rfl,ho2,(by go_grown)⟩
theorem zny(w:World)(c:zac)(va vb:Value)(hs:SIn lo w va c.head.args)(hb:LIn lo w vb c.body)(hl:c.head.args.length+zb9 c.body<=1000)(hl2:c.body.length<=1000) :
  Calls Tryz.prog 57 #[.agg #[.bool c.head.neg,.string c.head.pred,va,vb]] w fun e w'=>∃ nv,e=.returned (.agg #[nv])/\w'.ownsRow w.heap.size 9 1 nv (zah c).length ((zah c).map Value.string)/\Below w.heap.size w w':=by
 obtain⟨ao,cap,rfl⟩:=hs.shape
 obtain⟨aob,capb,rfl⟩:=hb.shape
 have hb0:Below w.heap.size w (((w.alloc (.cells #[.bool c.head.neg,.string c.head.pred,.slice ao c.head.args.length cap,.slice aob c.body.length capb] 90)).alloc (.cells #[.slice none 0 0] 124)).alloc (.cells #[.slice none 0 0] 124)):=(by go_grown)
 have hva0:VA w.heap.size (((w.alloc (.cells #[.bool c.head.neg,.string c.head.pred,.slice ao c.head.args.length cap,.slice aob c.body.length capb] 90)).alloc (.cells #[.slice none 0 0] 124)).alloc (.cells #[.slice none 0 0] 124)) (w.heap.size+2) []:=⟨_,by have:=Box.new ((w.alloc (.cells #[.bool c.head.neg,.string c.head.pred,.slice ao c.head.args.length cap,.slice aob c.body.length capb] 90)).alloc (.cells #[.slice none 0 0] 124)) #[.slice none 0 0] 124;simpa using this,World.ownsRow_nil _ _ _ _⟩
 have hres0:Box (((w.alloc (.cells #[.bool c.head.neg,.string c.head.pred,.slice ao c.head.args.length cap,.slice aob c.body.length capb] 90)).alloc (.cells #[.slice none 0 0] 124)).alloc (.cells #[.slice none 0 0] 124)) (w.heap.size+1) #[.slice none 0 0] 124:=by have:=(Box.new (w.alloc (.cells #[.bool c.head.neg,.string c.head.pred,.slice ao c.head.args.length cap,.slice aob c.body.length capb] 90)) #[.slice none 0 0] 124).below ((Below.refl _ _).alloc (Nat.le_refl _) (.cells #[.slice none 0 0] 124));simpa using this
 have hbx0:Box (((w.alloc (.cells #[.bool c.head.neg,.string c.head.pred,.slice ao c.head.args.length cap,.slice aob c.body.length capb] 90)).alloc (.cells #[.slice none 0 0] 124)).alloc (.cells #[.slice none 0 0] 124)) w.heap.size #[.bool c.head.neg,.string c.head.pred,.slice ao c.head.args.length cap,.slice aob c.body.length capb] 90:=((Box.new w _ _).below ((Below.refl _ _).alloc (Nat.le_refl _) _)).below ((Below.refl _ _).alloc (Nat.le_refl _) _)
 go_enter Tryz.func57,Tryz.ntmps57
 go_wp2
 go_loopw [9] (fun i wr=>∃ k:Nat,k<=c.body.length/\i=.int .i64 k/\VA w.heap.size wr (w.heap.size+2) ((c.body.take k).foldl zek [])/\Below w.heap.size w wr/\Box wr (w.heap.size+1) #[.slice none 0 0] 124) (fun i _=>c.body.length - (intOf i).toNat)
 case atStart=>exact⟨0,Nat.zero_le _,rfl,hva0,hb0,hres0⟩
 case round =>
  obtain⟨k,hk,rfl,hvk,hbk,hrk⟩:=hrel
  have hszk:=hbk.size
  by_cases hlt:k < c.body.length
  ·obtain⟨g,ao2,cap2,rfl,hg,hc0,hc1,hc2,hsk⟩:=hb.cell k hlt
   have hd0:=(hbk.cell (p:=⟨g,k * 3,none⟩) hg).trans hc0
   have hd1:=(hbk.cell (p:=⟨g,k * 3+1,none⟩) hg).trans hc1
   have hd2:=(hbk.cell (p:=⟨g,k * 3+2,none⟩) hg).trans hc2
   have hgr:g < wr.heap.size:=by omega
   have hlen:=zi3 (c.body.take k) []
   have hst:=zg5 c.body k hlt
   have hlen0:True:=trivial
   have hsn:(c.body.take (k+1)).foldl zek []=zek ((c.body.take k).foldl zek []) c.body[k]:=by rw[List.take_succ_eq_append_getElem hlt,List.foldl_append];rfl
   rw[List.getElem?_eq_getElem hlt] at hst
   simp only[Option.map_some,Option.getD_some] at hst
   clear hc0 hc1 hc2
   generalize c.body[k]=a at *
   generalize (c.body.take k).foldl zek []=vk at *
   have HS:Hid ((c.body.take (k+1)).foldl zek []=zek vk a):=hsn
   clear hsn
   cases hN:a.neg with
   |true =>
    rw[hN] at hd0
    have HR:Hid ((c.body.take (k+1)).foldl zek []=vk):=by rw[Hid,HS.out,zek,hN,if_pos rfl]
    clear HS hN
    go_wp2
    go_roundw
    case rel=>exact⟨k+1,by omega,by go_num,by rw[HR.out];exact hvk.below (by go_grown),(by go_grown),hrk.below (by go_grown)⟩
    case measure=>simp[intOf];omega
   |false =>
    rw[hN] at hd0
    have HR:Hid ((c.body.take (k+1)).foldl zek []=zer vk a.args):=by rw[Hid,HS.out,zek,hN];rfl
    clear HS hN
    go_wp2_with (first|(go_at_call 83;refine(add_any w _ (w.heap.size+2) vk a.args _ _ _ (by exact(by go_grown)) hsk (by exact hvk.below (by go_grown)) (by omega) (by simp at *;omega)).mono ?_;rintro e w1 ⟨rfl,hva1,hb1,hk1⟩;have hres1:=hk1.box _ _ _ (by omega) (by decide) (hrk.below (by go_grown))))
    go_roundw
    case rel=>exact⟨k+1,by omega,by go_num,by rw[HR.out];exact hva1,hb1,hres1⟩
    case measure=>simp[intOf];omega
  ·have hE:c.body.take k=c.body:=List.take_of_length_le (by omega)
   rw[hE] at hvk
   obtain⟨nv,hbx,hown⟩:=hvk
   obtain⟨ao3,cap3,rfl⟩:=zab hown
   obtain⟨hc,hf⟩:=hbx.rules
   obtain⟨hc2,hf2⟩:=hrk.rules
   have hz1:=hbx.lt
   clear hE
   go_wp2
   have ho2:=zb4 hown ((But.refl (w.heap.size+1) wr).setCell 0 (.slice ao3 (c.body.foldl zek []).length cap3)) hrk (by decide)
   exact bodyPost_ret (v:=.agg #[.slice ao3 (c.body.foldl zek []).length cap3]) (by simp[results,Tryz.results57,go_sem,hc2]) rfl ⟨_,rfl,ho2,(by go_grown)⟩
theorem count_any(w:World)(vb:Nat)(nv:Value)(vs:List ByteArray)(hbox:Box w vb #[nv] 124)(hs:SIn lo w nv vs) :
  Calls Tryz.prog 92 #[.pointer (some ⟨vb,0,none⟩)] w fun e w'=>e=.returned (.int .i64 vs.length)/\w'=w:=by
 obtain⟨hc,hf⟩:=hbox.rules
 obtain⟨ao,cap,rfl⟩:=hs.shape
 go_enter Tryz.func92,Tryz.ntmps92
 go_wp2
 go_ret
 exact⟨rfl,rfl⟩
def ze3(vs args:List ByteArray):Bool:=args.all fun t=>!zba t || zon t vs
theorem zqk{α:Type}(l:List α)(p:α->Bool)(k:Nat)(hk:k < l.length):(l.drop k).all p=(p l[k] && (l.drop (k+1)).all p):=by rw[List.drop_eq_getElem_cons hk,List.all_cons]
theorem zwb{α:Type}(l:List α)(p:α->Bool)(k:Nat)(hk:k < l.length):(l.drop k).any p=(p l[k] || (l.drop (k+1)).any p):=by rw[List.drop_eq_getElem_cons hk,List.any_cons]
theorem zkg(w:World)(vb:Nat)(nv:Value)(vs args:List ByteArray)(neg:Bool)(pred:ByteArray)(va:Value)(hbox:Box w vb #[nv] 124)(hv:SIn lo w nv vs){lo2:Nat}(hs:SIn lo2 w va args)(hl:vs.length<=1000)(hl2:args.length<=1000) :
  Calls Tryz.prog 94 #[.pointer (some ⟨vb,0,none⟩),.agg #[.bool neg,.string pred,va]] w fun e w'=>e=.returned (.bool (ze3 vs args))/\Below w.heap.size w w':=by
 obtain⟨ao,cap,rfl⟩:=hs.shape
 have hbA:=(Below.refl w.heap.size w).alloc (Nat.le_refl _) (.cells #[.bool neg,.string pred,.slice ao args.length cap] 45)
 have hbox1:=hbox.below hbA
 have hv1:=hv.below hbA
 go_enter Tryz.func94,Tryz.ntmps94
 go_wp2
 go_loop [10] (fun i=>∃ k:Nat,k<=args.length/\i=.int .i64 k/\Hid (ze3 vs args=(args.drop k).all fun t=>!zba t || zon t vs)) (fun i=>args.length - (intOf i).toNat)
 case atStart=>exact⟨0,Nat.zero_le _,rfl,rfl⟩
 case round =>
  obtain⟨k,hk,rfl,H⟩:=hrel
  by_cases hlt:k < args.length
  ·obtain⟨g,rfl,hg,hck⟩:=hs.cell k hlt
   have hdr:=zqk args (fun t=>!zba t || zon t vs) k hlt
   generalize args[k]=x at *
   have HD:Hid (ze3 vs args=((!zba x || zon x vs) && (args.drop (k+1)).all fun t=>!zba t || zon t vs)):=by rw[Hid,H.out,hdr]
   clear hdr H
   cases hT:zba x with
   |false =>
    have HR:Hid (ze3 vs args=(args.drop (k+1)).all fun t=>!zba t || zon t vs):=by rw[Hid,HD.out,hT];rfl
    clear HD
    go_wp2_with (first|(go_at_call 98;refine(zbn _ _).mono ?_;rintro e w' ⟨rfl,rfl⟩))
    go_round
    case rel=>exact⟨k+1,by omega,by go_num,HR⟩
    case measure=>simp[intOf];omega
   |true =>
    cases hM:zon x vs with
    |true =>
     have HR:Hid (ze3 vs args=(args.drop (k+1)).all fun t=>!zba t || zon t vs):=by rw[Hid,HD.out,hM];simp
     clear HD
     go_wp2_with (first|(go_at_call 98;refine(zbn _ _).mono ?_;rintro e w' ⟨rfl,rfl⟩)|(go_at_call 109;refine(zqo _ vb _ vs x hbox1 hv1 hl).mono ?_;rintro e w' ⟨rfl,rfl⟩))
     go_round
     case rel=>exact⟨k+1,by omega,by go_num,HR⟩
     case measure=>simp[intOf];omega
    |false =>
     have HR:Hid (ze3 vs args=false):=by rw[Hid,HD.out,hM,hT];rfl
     clear HD
     go_wp2_with (first|(go_at_call 98;refine(zbn _ _).mono ?_;rintro e w' ⟨rfl,rfl⟩)|(go_at_call 109;refine(zqo _ vb _ vs x hbox1 hv1 hl).mono ?_;rintro e w' ⟨rfl,rfl⟩))
     go_ret
     exact⟨by rw[HR.out];rfl,hbA⟩
  ·have HR:Hid (ze3 vs args=true):=by rw[Hid,H.out,List.drop_eq_nil_of_le (by omega)];rfl
   clear H
   go_wp2
   go_ret
   exact⟨by rw[HR.out];rfl,hbA⟩
def zed(c:zac):Bool:=decide (3 < c.head.args.length) || decide (6 < c.body.length) || c.body.any (fun l=>decide (3 < l.args.length)) || decide (5 < (zjn c).length)
def ze7(c:zac):Bool:=ze3 (zah c) c.head.args && c.body.all fun l=>!l.neg || ze3 (zah c) l.args
theorem zpj(w:World)(c:zac)(va vb:Value)(hs:SIn lo w va c.head.args)(hb:LIn lo w vb c.body)(hl:c.head.args.length+zb9 c.body<=1000)(hl2:c.body.length<=1000) :
  Calls Tryz.prog 62 #[.agg #[.bool c.head.neg,.string c.head.pred,va,vb]] w fun e w'=>e=.returned (.bool (zed c))/\Below w.heap.size w w':=by
 have hall:=fun W hW1 hW2=>z5u (lo:=lo) W c va vb hW1 hW2 hl hl2
 obtain⟨ao,cap,rfl⟩:=hs.shape
 obtain⟨aob,capb,rfl⟩:=hb.shape
 have HALL:Hid (∀ W,SIn lo W (.slice ao c.head.args.length cap) c.head.args->LIn lo W (.slice aob c.body.length capb) c.body->Calls Tryz.prog 91 #[.agg #[.bool c.head.neg,.string c.head.pred,.slice ao c.head.args.length cap,.slice aob c.body.length capb]] W fun e w'=>∃ nv,e=.returned (.agg #[nv])/\w'.ownsRow W.heap.size 9 1 nv (zjn c).length ((zjn c).map Value.string)/\Below W.heap.size W w'):=hall
 clear hall
 by_cases h1:3 < c.head.args.length∨6 < c.body.length
 ·have HM:Hid (zed c=true):=by unfold Hid zed;rcases h1 with h1|h1 <;> simp[h1]
  go_enter Tryz.func62,Tryz.ntmps62
  rcases h1 with h1|h1
  ·go_wp2
   go_ret
   exact⟨by rw[HM.out];rfl,(by go_grown)⟩
  ·by_cases h3:3 < c.head.args.length
   all_goals
    go_wp2
    go_ret
    exact⟨by rw[HM.out];rfl,(by go_grown)⟩
 ·have h3:¬ 3 < c.head.args.length:=by omega
  have h6:¬ 6 < c.body.length:=by omega
  have HM:Hid (zed c=(c.body.any (fun l=>decide (3 < l.args.length)) || decide (5 < (zjn c).length))):=by unfold Hid zed;simp[h3,h6]
  clear h1
  go_enter Tryz.func62,Tryz.ntmps62
  go_wp2
  go_loopw [20] (fun i wr=>∃ k:Nat,k<=c.body.length/\i=.int .i64 k/\Below w.heap.size w wr/\Box wr w.heap.size #[.bool c.head.neg,.string c.head.pred,.slice ao c.head.args.length cap,.slice aob c.body.length capb] 90/\Hid (zed c=((c.body.drop k).any (fun l=>decide (3 < l.args.length)) || decide (5 < (zjn c).length)))) (fun i _=>c.body.length - (intOf i).toNat)
  case atStart=>exact⟨0,Nat.zero_le _,rfl,(by go_grown),Box.new _ _ _,HM⟩
  case round =>
   obtain⟨k,hk,rfl,hbk,hbx,H⟩:=hrel
   have hszk:=hbk.size
   by_cases hlt:k < c.body.length
   ·obtain⟨g,ao2,cap2,rfl,hg,hc0,hc1,hc2,hsk⟩:=hb.cell k hlt
    have hd0:=(hbk.cell (p:=⟨g,k * 3,none⟩) hg).trans hc0
    have hd1:=(hbk.cell (p:=⟨g,k * 3+1,none⟩) hg).trans hc1
    have hd2:=(hbk.cell (p:=⟨g,k * 3+2,none⟩) hg).trans hc2
    have hgr:g < wr.heap.size:=by omega
    have hdr:=zwb c.body (fun l=>decide (3 < l.args.length)) k hlt
    clear hc0 hc1 hc2 hsk
    generalize c.body[k]=a at *
    have HD:Hid (zed c=(decide (3 < a.args.length) || (c.body.drop (k+1)).any (fun l=>decide (3 < l.args.length)) || decide (5 < (zjn c).length))):=by rw[Hid,H.out,hdr]
    clear hdr H HM
    by_cases h4:3 < a.args.length
    ·have HR:Hid (zed c=true):=by rw[Hid,HD.out];simp[h4]
     clear HD
     go_wp2
     go_ret
     exact⟨by rw[HR.out];rfl,(by go_grown)⟩
    ·have HR:Hid (zed c=((c.body.drop (k+1)).any (fun l=>decide (3 < l.args.length)) || decide (5 < (zjn c).length))):=by rw[Hid,HD.out];simp[h4]
     clear HD
     go_wp2
     go_roundw
     case rel=>exact⟨k+1,by omega,by go_num,(by go_grown),hbx.below (by go_grown),HR⟩
     case measure=>simp[intOf];omega
   ·have HR:Hid (zed c=decide (5 < (zjn c).length)):=by rw[Hid,H.out,List.drop_eq_nil_of_le (by omega)];simp
    have hsr:=hs.below hbk
    have hbr:=hb.below hbk
    obtain⟨hc,hf⟩:=hbx.rules
    have hblt:=hbx.lt
    clear H HM
    go_wp2_with (first|(go_at_call 91;refine(HALL.out _ hsr hbr).mono ?_;rintro e w1 ⟨nv,rfl,hown,hb1⟩;obtain⟨ao3,cap3,rfl⟩:=zab hown;have hB1:=zae hbk hb1 (Nat.le_refl _);have hz1:=hB1.size)|(go_at_call 92;refine(count_any _ _ _ (zjn c) (by exact Box.new _ _ _) (by exact zaa hown (by go_grown))).mono ?_;rintro e w2 ⟨rfl,rfl⟩))
    go_ret
    exact⟨by rw[HR.out];simp;omega,(by go_grown)⟩
theorem zp2(w:World)(c:zac)(va vb:Value)(hs:SIn lo w va c.head.args)(hb:LIn lo w vb c.body)(hl:c.head.args.length+zb9 c.body<=1000)(hl2:c.body.length<=1000) :
  Calls Tryz.prog 64 #[.agg #[.bool c.head.neg,.string c.head.pred,va,vb]] w fun e w'=>e=.returned (.bool (ze7 c))/\Below w.heap.size w w':=by
 have hall:=fun W hW1 hW2=>zny (lo:=lo) W c va vb hW1 hW2 hl hl2
 obtain⟨ao,cap,rfl⟩:=hs.shape
 obtain⟨aob,capb,rfl⟩:=hb.shape
 have HALL:Hid (∀ W,SIn lo W (.slice ao c.head.args.length cap) c.head.args->LIn lo W (.slice aob c.body.length capb) c.body->Calls Tryz.prog 57 #[.agg #[.bool c.head.neg,.string c.head.pred,.slice ao c.head.args.length cap,.slice aob c.body.length capb]] W fun e w'=>∃ nv,e=.returned (.agg #[nv])/\w'.ownsRow W.heap.size 9 1 nv (zah c).length ((zah c).map Value.string)/\Below W.heap.size W w'):=hall
 clear hall
 have hpl:(zah c).length<=1000:=by have:=zi3 c.body [];unfold zah;simp at this;omega
 have hargs:∀ k (hk:k < c.body.length),c.body[k].args.length<=1000:=fun k hk=>by
  have:=zg5 c.body k hk;rw[List.getElem?_eq_getElem hk] at this;simp at this;omega
 have HARGS:Hid (∀ k (hk:k < c.body.length),c.body[k].args.length<=1000):=hargs
 clear hargs
 cases hH:ze3 (zah c) c.head.args with
 |false =>
  have HM:Hid (ze7 c=false):=by unfold Hid ze7;simp[hH]
  go_enter Tryz.func64,Tryz.ntmps64
  go_wp2_with (first|(go_at_call 57;refine(HALL.out _ (by exact hs.below (by go_grown)) (by exact hb.below (by go_grown))).mono ?_;rintro e w1 ⟨nv,rfl,hown,hb1⟩;obtain⟨ao3,cap3,rfl⟩:=zab hown;have hB1:=zae ((Below.refl _ _).alloc (Nat.le_refl _) _) hb1 (Nat.le_refl _);have hz1:=hB1.size;have hbx1:=(Box.new w _ _).below hb1;obtain⟨hc1,hf1⟩:=hbx1.rules;have hblt:=hbx1.lt)|(go_at_call 94;refine(zkg _ _ _ (zah c) c.head.args _ _ _ (by exact Box.new _ _ _) (by exact zaa hown (by go_grown)) (by exact(hs.below hB1).below (by go_grown)) hpl (by omega)).mono ?_;rintro e w2 ⟨rfl,hb2⟩;have hB2:=zae (hB1.alloc hz1 _) hb2 (Nat.le_refl _)))
  go_ret
  exact⟨by rw[HM.out];rfl,hB2⟩
 |true =>
  have HM:Hid (ze7 c=c.body.all fun l=>!l.neg || ze3 (zah c) l.args):=by unfold Hid ze7;simp[hH]
  go_enter Tryz.func64,Tryz.ntmps64
  go_wp2_with (first|(go_at_call 57;refine(HALL.out _ (by exact hs.below (by go_grown)) (by exact hb.below (by go_grown))).mono ?_;rintro e w1 ⟨nv,rfl,hown,hb1⟩;obtain⟨ao3,cap3,rfl⟩:=zab hown;have hB1:=zae ((Below.refl _ _).alloc (Nat.le_refl _) _) hb1 (Nat.le_refl _);have hz1:=hB1.size;have hbx1:=(Box.new w _ _).below hb1;obtain⟨hc1,hf1⟩:=hbx1.rules;have hblt:=hbx1.lt)|(go_at_call 94;refine(zkg _ _ _ (zah c) c.head.args _ _ _ (by exact Box.new _ _ _) (by exact zaa hown (by go_grown)) (by exact(hs.below hB1).below (by go_grown)) hpl (by omega)).mono ?_;rintro e w2 ⟨rfl,hb2⟩;have hB2:=zae (hB1.alloc hz1 _) hb2 (Nat.le_refl _);have hz2:=hb2.size;simp only[World.size_alloc] at hz2;have hbx2:=(hbx1.below ((Below.refl _ _).alloc (Nat.le_refl _) _)).below hb2;obtain⟨hc2,hf2⟩:=hbx2.rules;have hblt2:=hbx2.lt;have hvb2:=(Box.new w1 _ _).below hb2;have hown2:=zaa (zaa hown ((Below.refl _ _).alloc (Nat.le_refl _) _)) hb2))
  go_loopw [15] (fun i wr=>∃ k:Nat,k<=c.body.length/\i=.int .i64 k/\Below w.heap.size w wr/\Box wr w1.heap.size #[.slice ao3 (zah c).length cap3] 124/\SIn 0 wr (.slice ao3 (zah c).length cap3) (zah c)/\Hid (ze7 c=(c.body.drop k).all fun l=>!l.neg || ze3 (zah c) l.args)) (fun i _=>c.body.length - (intOf i).toNat)
  case atStart=>exact⟨0,Nat.zero_le _,rfl,hB2,hvb2,zbb hown2 (Nat.zero_le _),HM⟩
  case round =>
   obtain⟨k,hk,rfl,hbk,hbx,hsv,H⟩:=hrel
   have hszk:=hbk.size
   by_cases hlt:k < c.body.length
   ·obtain⟨g,ao2,cap2,rfl,hg,hc0,hc1',hc2',hsk⟩:=hb.cell k hlt
    have hd0:=(hbk.cell (p:=⟨g,k * 3,none⟩) hg).trans hc0
    have hd1:=(hbk.cell (p:=⟨g,k * 3+1,none⟩) hg).trans hc1'
    have hd2:=(hbk.cell (p:=⟨g,k * 3+2,none⟩) hg).trans hc2'
    have hgr:g < wr.heap.size:=by omega
    have hdr:=zqk c.body (fun l=>!l.neg || ze3 (zah c) l.args) k hlt
    have hskr:=hsk.below hbk
    have hal:=HARGS.out k hlt
    clear hc0 hc1' hc2' hsk
    generalize c.body[k]=a at *
    have HD:Hid (ze7 c=((!a.neg || ze3 (zah c) a.args) && (c.body.drop (k+1)).all fun l=>!l.neg || ze3 (zah c) l.args)):=by rw[Hid,H.out,hdr]
    clear hdr H HM
    cases hN:a.neg with
    |false =>
     have HR:Hid (ze7 c=(c.body.drop (k+1)).all fun l=>!l.neg || ze3 (zah c) l.args):=by rw[Hid,HD.out,hN];rfl
     rw[hN] at hd0
     clear HD hN
     go_wp2
     go_roundw
     case rel=>exact⟨k+1,by omega,by go_num,(by go_grown),hbx.below (by go_grown),hsv.below (by go_grown),HR⟩
     case measure=>simp[intOf];omega
    |true =>
     rw[hN] at hd0
     cases hC:ze3 (zah c) a.args with
     |true =>
      have HR:Hid (ze7 c=(c.body.drop (k+1)).all fun l=>!l.neg || ze3 (zah c) l.args):=by rw[Hid,HD.out,hC];simp
      clear HD hN
      go_wp2_with (first|(go_at_call 94;refine(zkg _ _ _ (zah c) a.args _ _ _ (by exact hbx.below (by go_grown)) (by exact hsv.below (by go_grown)) (by exact hskr.below (by go_grown)) hpl hal).mono ?_;rintro e w3 ⟨rfl,hb3⟩;have hB3:=zae ((Below.refl wr.heap.size wr).alloc (Nat.le_refl _) _) hb3 (Nat.le_refl _)))
      go_roundw
      case rel=>exact⟨k+1,by omega,by go_num,zae hbk hB3 (Nat.le_refl _),hbx.below hB3,hsv.below hB3,HR⟩
      case measure=>simp[intOf];omega
     |false =>
      have HR:Hid (ze7 c=false):=by rw[Hid,HD.out,hC,hN];rfl
      clear HD hN
      go_wp2_with (first|(go_at_call 94;refine(zkg _ _ _ (zah c) a.args _ _ _ (by exact hbx.below (by go_grown)) (by exact hsv.below (by go_grown)) (by exact hskr.below (by go_grown)) hpl hal).mono ?_;rintro e w3 ⟨rfl,hb3⟩;have hB3:=zae ((Below.refl wr.heap.size wr).alloc (Nat.le_refl _) _) hb3 (Nat.le_refl _)))
      go_ret
      exact⟨by rw[HR.out];rfl,zae hbk hB3 (Nat.le_refl _)⟩
   ·have HR:Hid (ze7 c=true):=by rw[Hid,H.out,List.drop_eq_nil_of_le (by omega)];rfl
    clear H HM
    go_wp2
    go_ret
    exact⟨by rw[HR.out];rfl,hbk⟩
end Go.Proofs.YteampbddflhngabGreat
