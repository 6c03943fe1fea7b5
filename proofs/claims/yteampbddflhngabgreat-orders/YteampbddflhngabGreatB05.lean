import Derived.Test.YteampbddflhngabGreatB04

namespace Go.Proofs.YteampbddflhngabGreat
set_option maxRecDepth 100000
set_option maxHeartbeats 1000000
open Go.RowKit
variable{lo:Nat}
theorem Box.set{w:World}{b:Nat}{c:Array Value}{T:TypeId}(h:Box w b c T)(o:Nat)(u:Value):Box(w.setCell⟨b,o,none⟩ u) b(c.setIfInBounds o u) T:=by
 unfold Box at *;simp [World.setCell,Array.getElem?_modify,h]
theorem Box.set_ne{w:World}{b b':Nat}{c:Array Value}{T:TypeId}(h:Box w b c T)(hne:b≠b')(o:Nat)(u:Value):Box(w.setCell⟨b',o,none⟩ u) b c T:=by
 unfold Box at *;rw [Below.heap_setCell _ _ _ _ hne];exact h
theorem Box.push{wO w2:World}{b:Nat}{e T:TypeId}{s:Nat}{v:Value}{n bb:Nat}{xs:List Value}{c:Array Value}(hv:wO.ownsRow b e s v n xs)(hne:e≠T)(h:Box wO bb c T)
  (hk:∀ k,k < wO.heap.size->some k≠v.ownBlock->w2.heap[k]?=wO.heap[k]?):Box w2 bb c T:=by
 have hlt:=h.lt
 unfold Box at *
 rw [hk bb hlt ?_]
 ·exact h
 ·intro he
  obtain⟨_,⟨hv0,_⟩|⟨g',cap',cur',hv',_,hh',_⟩⟩:=hv
  ·subst hv0;cases he
  ·subst hv';simp only [Value.ownBlock,Option.some.injEq] at he;subst he;rw [h] at hh';simp at hh';exact hne hh'.2.symm
structure KeepB(vb:Nat)(w w':World):Prop where
 size:w.heap.size<=w'.heap.size
 box:∀ b c T,b≠vb->T≠9->Box w b c T->Box w' b c T
theorem KeepB.trans{vb:Nat}{a b c:World}(h:KeepB vb a b)(k:KeepB vb b c):KeepB vb a c:=⟨Nat.le_trans h.size k.size,fun x y z h1 h2 h3=>k.box x y z h1 h2(h.box x y z h1 h2 h3)⟩
theorem KeepB.of{vb:Nat}{w w':World}(h:Below w.heap.size w w'):KeepB vb w w':=⟨h.size,fun _ _ _ _ _ k=>k.below h⟩
def VA(B:Nat)(w:World)(vb:Nat)(vs:List ByteArray):Prop:=∃ nv,Box w vb #[nv] 124/\w.ownsRow B 9 1 nv vs.length(vs.map Value.string)
theorem VA.below{B:Nat}{w w':World}{vb:Nat}{vs:List ByteArray}(h:VA B w vb vs)(hb:Below w.heap.size w w'):VA B w' vb vs:=by
 obtain⟨nv,h1,h2⟩:=h;exact⟨nv,h1.below hb,owns_below h2 hb⟩
theorem addVs_snoc(vs args:List ByteArray)(k:Nat)(hk:k < args.length):addVs vs(args.take(k+1))=addV(addVs vs(args.take k)) args[k]:=by
 unfold addVs;rw [List.take_succ_eq_append_getElem hk,List.foldl_append];rfl
theorem addV_var{vs:List ByteArray}{t:ByteArray}(h1:isVarB t=true)(h2:memB t vs=false):addV vs t=vs++[t]:=by simp [addV,h1,h2]
theorem addV_not{vs:List ByteArray}{t:ByteArray}(h1:isVarB t=false):addV vs t=vs:=by simp [addV,h1]
theorem addV_has{vs:List ByteArray}{t:ByteArray}(h2:memB t vs=true):addV vs t=vs:=by simp [addV,h2]
theorem add_any(w0 w:World)(vb:Nat)(vs args:List ByteArray)(neg:Bool)(pred:ByteArray)(va:Value)(h0:Below w0.heap.size w0 w)(hs:SIn lo w0 va args)(hva:VA w0.heap.size w vb vs)(hvb:w0.heap.size<=vb)(hl:vs.length+args.length<=1000) :
  Calls Tryz.prog 83 #[.pointer(some⟨vb,0,none⟩),.agg #[.bool neg,.string pred,va]] w fun e w'=>e=.returned(.tuple #[])/\VA w0.heap.size w' vb(addVs vs args)/\Below w0.heap.size w0 w'/\KeepB vb w w':=by
 obtain⟨i0,hi,hz0,hzs,hzb⟩:=info_parts Tryz.infoString
 obtain⟨ao,cap,rfl⟩:=hs.shape
 have hsz0:=h0.size
 go_enter Tryz.func83,Tryz.ntmps83
 go_wp2
 go_loopw [9](fun i wr=>∃ k:Nat,k<=args.length/\i=.int .i64 k/\VA w0.heap.size wr vb(addVs vs(args.take k))/\Below w0.heap.size w0 wr/\KeepB vb w wr)(fun i _=>args.length - (intOf i).toNat)
 case atStart =>
  have hb:=(Below.refl w.heap.size w).alloc(Nat.le_refl _)(.cells #[.bool neg,.string pred,.slice ao args.length cap] 45)
  exact⟨0,Nat.zero_le _,rfl,hva.below hb,bnext h0 hb(Nat.le_refl _),KeepB.of hb⟩
 case round =>
  obtain⟨k,hk,rfl,hvk,hbk,hkk⟩:=hrel
  by_cases hlt:k < args.length
  ·obtain⟨g,rfl,hg,hck⟩:=(hs.below hbk).cell k hlt
   have hsn:=addVs_snoc vs args k hlt
   have hlen:=addVs_len(args.take k) vs
   have htk:(args.take k).length=k:=by simp;omega
   rw [htk] at hlen
   clear htk
   generalize args[k]=t at *
   generalize addVs vs(args.take k)=vk at *
   have HS:Hid(addVs vs(args.take(k+1))=addV vk t):=hsn
   clear hsn
   cases hT:isVarB t with
   |false =>
    have hR:addVs vs(args.take(k+1))=vk:=by rw [HS.out,addV_not hT]
    have HR:Hid(addVs vs(args.take(k+1))=vk):=hR
    clear hR HS
    go_wp2_with(go_at_call 98;refine(isVariable_any _ _).mono ?_;rintro e w'⟨rfl,rfl⟩)
    go_roundw
    case rel=>exact⟨k+1,by omega,by go_num,by rw [HR.out];exact hvk,hbk,hkk⟩
    case measure=>simp [intOf];omega
   |true =>
    obtain⟨nv,hbx,hown⟩:=hvk
    obtain⟨ao2,cap2,rfl⟩:=own_view hown
    obtain⟨hc,hf⟩:=hbx.rules
    cases hM:memB t vk with
    |true =>
     have hR:addVs vs(args.take(k+1))=vk:=by rw [HS.out,addV_has hM]
     have HR:Hid(addVs vs(args.take(k+1))=vk):=hR
     clear hR HS
     go_wp2_with(first|(go_at_call 98;refine(isVariable_any _ _).mono ?_;rintro e w'⟨rfl,rfl⟩)|(go_at_call 109;refine(has_any _ vb _ vk t hbx hown(by omega)).mono ?_;rintro e w'⟨rfl,rfl⟩))
     go_roundw
     case rel=>exact⟨k+1,by omega,by go_num,by rw [HR.out];exact⟨_,hbx,hown⟩,hbk,hkk⟩
     case measure=>simp [intOf];omega
    |false =>
     have hR:addVs vs(args.take(k+1))=vk++[t]:=by rw [HS.out,addV_var hT hM]
     have HR:Hid(addVs vs(args.take(k+1))=vk++[t]):=hR
     clear hR HS
     go_wp2_with(first|(go_at_call 98;refine(isVariable_any _ _).mono ?_;rintro e w'⟨rfl,rfl⟩)|(go_at_call 109;refine(has_any _ vb _ vk t hbx hown(by omega)).mono ?_;rintro e w'⟨rfl,rfl⟩)|(at_builtin;refine wpList_push _ _ _ _ rfl(.tmp 25)(.tmp 27) 38 rfl w0.heap.size 9 i0 _ 1 16 Tryz.underlying38 hi hz0 hzs hzb rfl(by decide) _ _ _ rfl hown(Below.refl _ _) _ _ rfl(by simp) rfl(by simp [Value.oneCell'])(by omega)(by omega) hbk.size ?_;intro v' w2 ho2 hB2 hc2 hf2 hk2 hz2';clear hc2 hf2;obtain⟨ao3,cap3,rfl⟩:=own_view ho2;have hbx2:=Box.push hown(by decide) hbx hk2;obtain⟨hc3,hf3⟩:=hbx2.rules))
     have hkb:KeepB vb w'(w2.setCell⟨vb,0,none⟩(.slice ao3(vk.length+1) cap3)):=⟨by simp [World.setCell];exact hz2',fun b c T h1 h2 h3=>(Box.push hown(Ne.symm h2) h3 hk2).set_ne h1 _ _⟩
     have hva2:VA w0.heap.size(w2.setCell⟨vb,0,none⟩(.slice ao3(vk.length+1) cap3)) vb(vk++[t]):=⟨_,hbx2.set 0 _,by
      have:=own_but ho2((But.refl vb w2).setCell 0(.slice ao3(vk.length+1) cap3)) hbx2(by decide)
      simpa using this⟩
     go_roundw
     case rel=>exact⟨k+1,by omega,by go_num,by rw [HR.out];exact hva2,(hbk.trans hB2).setCell hvb _,hkk.trans hkb⟩
     case measure=>simp [intOf];omega
  ·have hE:args.take k=args:=List.take_of_length_le(by omega)
   rw [hE] at hvk
   clear hE
   go_wp2
   go_end0
   exact⟨rfl,hvk,hbk,hkk⟩
end Go.Proofs.YteampbddflhngabGreat

namespace Go.Proofs.YteampbddflhngabGreat
set_option maxRecDepth 100000
set_option maxHeartbeats 1000000
open Go.RowKit
variable{lo:Nat}
theorem LIn.cell{w:World}{ao:Option Addr}{n cap:Nat}{ls:List PLit}(h:LIn lo w(.slice ao n cap) ls)(k:Nat)(hk:k < ls.length):∃ g ao2 cap2,ao=some⟨g,0,none⟩/\g < w.heap.size ∧
  w.cell?⟨g,k * 3,none⟩=some(.bool ls[k].neg)/\w.cell?⟨g,k * 3+1,none⟩=some(.string ls[k].pred)/\w.cell?⟨g,k * 3+2,none⟩=some(.slice ao2 ls[k].args.length cap2)/\SIn lo w(.slice ao2 ls[k].args.length cap2) ls[k].args:=by
 obtain⟨xs,ho,hc⟩:=h
 obtain⟨g,cap',hv,_,hg,hcl⟩:=own_cells ho(by omega)
 simp at hv
 obtain⟨va,a1,a2,a3,a4⟩:=hc.at k ls[k](by simp [hk])
 obtain⟨ao2,cap2,rfl⟩:=a4.shape
 exact⟨g,ao2,cap2,hv.1,hg,hcl _ _ a1,hcl _ _ a2,hcl _ _ a3,a4⟩
def litVs(vs:List ByteArray)(l:PLit):List ByteArray:=addVs vs l.args
def plainV(vs:List ByteArray)(l:PLit):List ByteArray:=if l.neg then vs else addVs vs l.args
def allVs(c:PClause):List ByteArray:=c.body.foldl litVs(addVs [] c.head.args)
def plainVs(c:PClause):List ByteArray:=c.body.foldl plainV []
def sumArgs(ls:List PLit):Nat:=ls.foldr(fun l n=>l.args.length+n) 0
theorem sumArgs_take(ls:List PLit):∀ k,k < ls.length->sumArgs(ls.take k)+(ls[k]?.map(·.args.length)).getD 0<=sumArgs ls:=by
 induction ls with
 |nil=>intro k h;simp at h
 |cons a ls ih =>
  intro k h
  cases k with
  |zero=>simp [sumArgs]
  |succ k=>have:=ih k(by simpa using h);simp [sumArgs] at this ⊢;omega
theorem litVs_len(ls:List PLit):∀ vs:List ByteArray,(ls.foldl litVs vs).length<=vs.length+sumArgs ls:=by
 induction ls with
 |nil=>intro vs;simp [sumArgs]
 |cons a ls ih=>intro vs;have:=ih(litVs vs a);have:=addVs_len a.args vs;simp [sumArgs,litVs] at *;omega
theorem plainV_len(ls:List PLit):∀ vs:List ByteArray,(ls.foldl plainV vs).length<=vs.length+sumArgs ls:=by
 induction ls with
 |nil=>intro vs;simp [sumArgs]
 |cons a ls ih =>
  intro vs
  have h1:=ih(plainV vs a)
  have h2:=addVs_len a.args vs
  have h3:(plainV vs a).length<=vs.length+a.args.length:=by unfold plainV;split <;> omega
  simp [sumArgs] at *;omega
theorem all_any(w:World)(c:PClause)(va vb:Value)(hs:SIn lo w va c.head.args)(hb:LIn lo w vb c.body)(hl:c.head.args.length+sumArgs c.body<=1000)(hl2:c.body.length<=1000) :
  Calls Tryz.prog 91 #[.agg #[.bool c.head.neg,.string c.head.pred,va,vb]] w fun e w'=>∃ nv,e=.returned(.agg #[nv])/\w'.ownsRow w.heap.size 9 1 nv(allVs c).length((allVs c).map Value.string)/\Below w.heap.size w w':=by
 obtain⟨ao,cap,rfl⟩:=hs.shape
 obtain⟨aob,capb,rfl⟩:=hb.shape
 have hb0:Below w.heap.size w(((w.alloc(.cells #[.bool c.head.neg,.string c.head.pred,.slice ao c.head.args.length cap,.slice aob c.body.length capb] 90)).alloc(.cells #[.slice none 0 0] 124)).alloc(.cells #[.slice none 0 0] 124)):=(by repeat'(first|with_reducible(first|exact zR _ _|assumption|refine zN ?_ _|refine zA ?_ ?_ _|refine zD ?_|refine zS ?_ ?_ _)|go_size))
 have hva0:VA w.heap.size(((w.alloc(.cells #[.bool c.head.neg,.string c.head.pred,.slice ao c.head.args.length cap,.slice aob c.body.length capb] 90)).alloc(.cells #[.slice none 0 0] 124)).alloc(.cells #[.slice none 0 0] 124))(w.heap.size+2) []:=⟨_,by have:=Box.new((w.alloc(.cells #[.bool c.head.neg,.string c.head.pred,.slice ao c.head.args.length cap,.slice aob c.body.length capb] 90)).alloc(.cells #[.slice none 0 0] 124)) #[.slice none 0 0] 124;simpa using this,World.ownsRow_nil _ _ _ _⟩
 have hres0:Box(((w.alloc(.cells #[.bool c.head.neg,.string c.head.pred,.slice ao c.head.args.length cap,.slice aob c.body.length capb] 90)).alloc(.cells #[.slice none 0 0] 124)).alloc(.cells #[.slice none 0 0] 124))(w.heap.size+1) #[.slice none 0 0] 124:=by have:=(Box.new(w.alloc(.cells #[.bool c.head.neg,.string c.head.pred,.slice ao c.head.args.length cap,.slice aob c.body.length capb] 90)) #[.slice none 0 0] 124).below((Below.refl _ _).alloc(Nat.le_refl _)(.cells #[.slice none 0 0] 124));simpa using this
 have hbx0:Box(((w.alloc(.cells #[.bool c.head.neg,.string c.head.pred,.slice ao c.head.args.length cap,.slice aob c.body.length capb] 90)).alloc(.cells #[.slice none 0 0] 124)).alloc(.cells #[.slice none 0 0] 124)) w.heap.size #[.bool c.head.neg,.string c.head.pred,.slice ao c.head.args.length cap,.slice aob c.body.length capb] 90:=((Box.new w _ _).below((Below.refl _ _).alloc(Nat.le_refl _) _)).below((Below.refl _ _).alloc(Nat.le_refl _) _)
 go_enter Tryz.func91,Tryz.ntmps91
 go_wp2_with(first|(go_at_call 83;refine(add_any w _(w.heap.size+2) [] c.head.args _ _ _(by exact hb0) hs(by exact hva0)(by omega)(by simp;omega)).mono ?_;rintro e w1⟨rfl,hva1,hb1,hk1⟩;have hres1:=hk1.box _ _ _(by omega)(by decide) hres0;have hbx1:=hk1.box _ _ _(by omega)(by decide) hbx0;obtain⟨hbc,hbf⟩:=hbx1.rules;have hsz1:=hbx1.lt))
 go_loopw [12](fun i wr=>∃ k:Nat,k<=c.body.length/\i=.int .i64 k/\VA w.heap.size wr(w.heap.size+2)((c.body.take k).foldl litVs(addVs [] c.head.args))/\Below w.heap.size w wr/\Box wr(w.heap.size+1) #[.slice none 0 0] 124)(fun i _=>c.body.length - (intOf i).toNat)
 case atStart=>exact⟨0,Nat.zero_le _,rfl,hva1,hb1,hres1⟩
 case round =>
  obtain⟨k,hk,rfl,hvk,hbk,hrk⟩:=hrel
  have hszk:=hbk.size
  by_cases hlt:k < c.body.length
  ·obtain⟨g,ao2,cap2,rfl,hg,hc0,hc1,hc2,hsk⟩:=hb.cell k hlt
   have hd0:=(hbk.cell(p:=⟨g,k * 3,none⟩) hg).trans hc0
   have hd1:=(hbk.cell(p:=⟨g,k * 3+1,none⟩) hg).trans hc1
   have hd2:=(hbk.cell(p:=⟨g,k * 3+2,none⟩) hg).trans hc2
   have hgr:g < wr.heap.size:=by omega
   have hlen:=litVs_len(c.body.take k)(addVs [] c.head.args)
   have hst:=sumArgs_take c.body k hlt
   have hlen0:=addVs_len c.head.args []
   have hsn:(c.body.take(k+1)).foldl litVs(addVs [] c.head.args)=litVs((c.body.take k).foldl litVs(addVs [] c.head.args)) c.body[k]:=by rw [List.take_succ_eq_append_getElem hlt,List.foldl_append];rfl
   rw [List.getElem?_eq_getElem hlt] at hst
   simp only [Option.map_some,Option.getD_some] at hst
   clear hc0 hc1 hc2
   generalize c.body[k]=a at *
   generalize(c.body.take k).foldl litVs(addVs [] c.head.args)=vk at *
   have HS:Hid((c.body.take(k+1)).foldl litVs(addVs [] c.head.args)=litVs vk a):=hsn
   clear hsn
   go_wp2_with(first|(go_at_call 83;refine(add_any w _(w.heap.size+2) vk a.args _ _ _(by exact(by repeat'(first|with_reducible(first|exact zR _ _|assumption|refine zN ?_ _|refine zA ?_ ?_ _|refine zD ?_|refine zS ?_ ?_ _)|go_size))) hsk(by exact hvk.below(by repeat'(first|with_reducible(first|exact zR _ _|assumption|refine zN ?_ _|refine zA ?_ ?_ _|refine zD ?_|refine zS ?_ ?_ _)|go_size)))(by omega)(by simp at *;omega)).mono ?_;rintro e w1⟨rfl,hva1,hb1,hk1⟩;have hres1:=hk1.box _ _ _(by omega)(by decide)(hrk.below(by repeat'(first|with_reducible(first|exact zR _ _|assumption|refine zN ?_ _|refine zA ?_ ?_ _|refine zD ?_|refine zS ?_ ?_ _)|go_size)))))
   go_roundw
   case rel=>exact⟨k+1,by omega,by go_num,by rw [HS.out];exact hva1,hb1,hres1⟩
   case measure=>simp [intOf];omega
  ·have hE:c.body.take k=c.body:=List.take_of_length_le(by omega)
   rw [hE] at hvk
   obtain⟨nv,hbx,hown⟩:=hvk
   obtain⟨ao3,cap3,rfl⟩:=own_view hown
   obtain⟨hc,hf⟩:=hbx.rules
   obtain⟨hc2,hf2⟩:=hrk.rules
   have hz1:=hbx.lt
   clear hE
   go_wp2
   have ho2:=own_but hown((But.refl(w.heap.size+1) wr).setCell 0(.slice ao3(c.body.foldl litVs(addVs [] c.head.args)).length cap3)) hrk(by decide)
   exact bodyPost_ret(v:=.agg #[.slice ao3(c.body.foldl litVs(addVs [] c.head.args)).length cap3])(by simp [results,Tryz.results91,go_sem,hc2]) rfl⟨_,rfl,ho2,(by repeat'(first|with_reducible(first|exact zR _ _|assumption|refine zN ?_ _|refine zA ?_ ?_ _|refine zD ?_|refine zS ?_ ?_ _)|go_size))⟩
theorem plain_any(w:World)(c:PClause)(va vb:Value)(hs:SIn lo w va c.head.args)(hb:LIn lo w vb c.body)(hl:c.head.args.length+sumArgs c.body<=1000)(hl2:c.body.length<=1000) :
  Calls Tryz.prog 57 #[.agg #[.bool c.head.neg,.string c.head.pred,va,vb]] w fun e w'=>∃ nv,e=.returned(.agg #[nv])/\w'.ownsRow w.heap.size 9 1 nv(plainVs c).length((plainVs c).map Value.string)/\Below w.heap.size w w':=by
 obtain⟨ao,cap,rfl⟩:=hs.shape
 obtain⟨aob,capb,rfl⟩:=hb.shape
 have hb0:Below w.heap.size w(((w.alloc(.cells #[.bool c.head.neg,.string c.head.pred,.slice ao c.head.args.length cap,.slice aob c.body.length capb] 90)).alloc(.cells #[.slice none 0 0] 124)).alloc(.cells #[.slice none 0 0] 124)):=(by repeat'(first|with_reducible(first|exact zR _ _|assumption|refine zN ?_ _|refine zA ?_ ?_ _|refine zD ?_|refine zS ?_ ?_ _)|go_size))
 have hva0:VA w.heap.size(((w.alloc(.cells #[.bool c.head.neg,.string c.head.pred,.slice ao c.head.args.length cap,.slice aob c.body.length capb] 90)).alloc(.cells #[.slice none 0 0] 124)).alloc(.cells #[.slice none 0 0] 124))(w.heap.size+2) []:=⟨_,by have:=Box.new((w.alloc(.cells #[.bool c.head.neg,.string c.head.pred,.slice ao c.head.args.length cap,.slice aob c.body.length capb] 90)).alloc(.cells #[.slice none 0 0] 124)) #[.slice none 0 0] 124;simpa using this,World.ownsRow_nil _ _ _ _⟩
 have hres0:Box(((w.alloc(.cells #[.bool c.head.neg,.string c.head.pred,.slice ao c.head.args.length cap,.slice aob c.body.length capb] 90)).alloc(.cells #[.slice none 0 0] 124)).alloc(.cells #[.slice none 0 0] 124))(w.heap.size+1) #[.slice none 0 0] 124:=by have:=(Box.new(w.alloc(.cells #[.bool c.head.neg,.string c.head.pred,.slice ao c.head.args.length cap,.slice aob c.body.length capb] 90)) #[.slice none 0 0] 124).below((Below.refl _ _).alloc(Nat.le_refl _)(.cells #[.slice none 0 0] 124));simpa using this
 have hbx0:Box(((w.alloc(.cells #[.bool c.head.neg,.string c.head.pred,.slice ao c.head.args.length cap,.slice aob c.body.length capb] 90)).alloc(.cells #[.slice none 0 0] 124)).alloc(.cells #[.slice none 0 0] 124)) w.heap.size #[.bool c.head.neg,.string c.head.pred,.slice ao c.head.args.length cap,.slice aob c.body.length capb] 90:=((Box.new w _ _).below((Below.refl _ _).alloc(Nat.le_refl _) _)).below((Below.refl _ _).alloc(Nat.le_refl _) _)
 go_enter Tryz.func57,Tryz.ntmps57
 go_wp2
 go_loopw [9](fun i wr=>∃ k:Nat,k<=c.body.length/\i=.int .i64 k/\VA w.heap.size wr(w.heap.size+2)((c.body.take k).foldl plainV [])/\Below w.heap.size w wr/\Box wr(w.heap.size+1) #[.slice none 0 0] 124)(fun i _=>c.body.length - (intOf i).toNat)
 case atStart=>exact⟨0,Nat.zero_le _,rfl,hva0,hb0,hres0⟩
 case round =>
  obtain⟨k,hk,rfl,hvk,hbk,hrk⟩:=hrel
  have hszk:=hbk.size
  by_cases hlt:k < c.body.length
  ·obtain⟨g,ao2,cap2,rfl,hg,hc0,hc1,hc2,hsk⟩:=hb.cell k hlt
   have hd0:=(hbk.cell(p:=⟨g,k * 3,none⟩) hg).trans hc0
   have hd1:=(hbk.cell(p:=⟨g,k * 3+1,none⟩) hg).trans hc1
   have hd2:=(hbk.cell(p:=⟨g,k * 3+2,none⟩) hg).trans hc2
   have hgr:g < wr.heap.size:=by omega
   have hlen:=plainV_len(c.body.take k) []
   have hst:=sumArgs_take c.body k hlt
   have hlen0:True:=trivial
   have hsn:(c.body.take(k+1)).foldl plainV []=plainV((c.body.take k).foldl plainV []) c.body[k]:=by rw [List.take_succ_eq_append_getElem hlt,List.foldl_append];rfl
   rw [List.getElem?_eq_getElem hlt] at hst
   simp only [Option.map_some,Option.getD_some] at hst
   clear hc0 hc1 hc2
   generalize c.body[k]=a at *
   generalize(c.body.take k).foldl plainV []=vk at *
   have HS:Hid((c.body.take(k+1)).foldl plainV []=plainV vk a):=hsn
   clear hsn
   cases hN:a.neg with
   |true =>
    rw [hN] at hd0
    have HR:Hid((c.body.take(k+1)).foldl plainV []=vk):=by rw [Hid,HS.out,plainV,hN,if_pos rfl]
    clear HS hN
    go_wp2
    go_roundw
    case rel=>exact⟨k+1,by omega,by go_num,by rw [HR.out];exact hvk.below(by repeat'(first|with_reducible(first|exact zR _ _|assumption|refine zN ?_ _|refine zA ?_ ?_ _|refine zD ?_|refine zS ?_ ?_ _)|go_size)),(by repeat'(first|with_reducible(first|exact zR _ _|assumption|refine zN ?_ _|refine zA ?_ ?_ _|refine zD ?_|refine zS ?_ ?_ _)|go_size)),hrk.below(by repeat'(first|with_reducible(first|exact zR _ _|assumption|refine zN ?_ _|refine zA ?_ ?_ _|refine zD ?_|refine zS ?_ ?_ _)|go_size))⟩
    case measure=>simp [intOf];omega
   |false =>
    rw [hN] at hd0
    have HR:Hid((c.body.take(k+1)).foldl plainV []=addVs vk a.args):=by rw [Hid,HS.out,plainV,hN];rfl
    clear HS hN
    go_wp2_with(first|(go_at_call 83;refine(add_any w _(w.heap.size+2) vk a.args _ _ _(by exact(by repeat'(first|with_reducible(first|exact zR _ _|assumption|refine zN ?_ _|refine zA ?_ ?_ _|refine zD ?_|refine zS ?_ ?_ _)|go_size))) hsk(by exact hvk.below(by repeat'(first|with_reducible(first|exact zR _ _|assumption|refine zN ?_ _|refine zA ?_ ?_ _|refine zD ?_|refine zS ?_ ?_ _)|go_size)))(by omega)(by simp at *;omega)).mono ?_;rintro e w1⟨rfl,hva1,hb1,hk1⟩;have hres1:=hk1.box _ _ _(by omega)(by decide)(hrk.below(by repeat'(first|with_reducible(first|exact zR _ _|assumption|refine zN ?_ _|refine zA ?_ ?_ _|refine zD ?_|refine zS ?_ ?_ _)|go_size)))))
    go_roundw
    case rel=>exact⟨k+1,by omega,by go_num,by rw [HR.out];exact hva1,hb1,hres1⟩
    case measure=>simp [intOf];omega
  ·have hE:c.body.take k=c.body:=List.take_of_length_le(by omega)
   rw [hE] at hvk
   obtain⟨nv,hbx,hown⟩:=hvk
   obtain⟨ao3,cap3,rfl⟩:=own_view hown
   obtain⟨hc,hf⟩:=hbx.rules
   obtain⟨hc2,hf2⟩:=hrk.rules
   have hz1:=hbx.lt
   clear hE
   go_wp2
   have ho2:=own_but hown((But.refl(w.heap.size+1) wr).setCell 0(.slice ao3(c.body.foldl plainV []).length cap3)) hrk(by decide)
   exact bodyPost_ret(v:=.agg #[.slice ao3(c.body.foldl plainV []).length cap3])(by simp [results,Tryz.results57,go_sem,hc2]) rfl⟨_,rfl,ho2,(by repeat'(first|with_reducible(first|exact zR _ _|assumption|refine zN ?_ _|refine zA ?_ ?_ _|refine zD ?_|refine zS ?_ ?_ _)|go_size))⟩
end Go.Proofs.YteampbddflhngabGreat
