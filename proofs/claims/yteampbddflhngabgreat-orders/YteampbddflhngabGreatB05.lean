import Derived.Test.YteampbddflhngabGreatB04

namespace Go.Proofs.YteampbddflhngabGreat
set_option maxRecDepth 100000
set_option maxHeartbeats 1000000
open Go.RowKit
variable {lo:Nat}
theorem zbw(t:ByteArray)(w:World) :
  Calls Tryz.prog 98 #[.string t] w fun e w'=>e=.returned (.bool (zbb t))/\w'=w:=by
 unfold zbb
 by_cases h:0 < t.size
 ·rw[zu8 h]
  go_enter Tryz.func98,Tryz.ntmps98
  go_wp2
  all_goals go_ret
  all_goals go_light
  all_goals exact⟨by simp_all [z9e];try omega,rfl⟩
 ·rw[z2e h]
  go_enter Tryz.func98,Tryz.ntmps98
  go_wp2
  all_goals go_ret
  all_goals go_light
  all_goals exact⟨by simp_all [z9e],rfl⟩
theorem SIn.cell{w:World}{ao:Option Addr}{n cap:Nat}{vs:List ByteArray}(h:SIn lo w (.slice ao n cap) vs)(k:Nat)(hk:k < vs.length):∃ g,ao=some ⟨g,0,none⟩/\g < w.heap.size/\w.cell? ⟨g,k,none⟩=some (.string vs[k]):=by
 have ho:=h
 obtain⟨g,cap',hv,_,hg,hcl⟩:=zam ho (by omega)
 simp at hv
 exact⟨g,hv.1,hg,hcl k _ (by simp[hk])⟩
def zbk:List ByteArray->ByteArray->Option Nat
 |[],_=>none
 |y::r,n=>if y=n then some 0 else(zbk r n).map (·+1)
theorem zje:∀ {l:List ByteArray} {n:ByteArray} {k:Nat},zbk l n=some k->∃ h:k < l.length,l[k]=n
 |[],_,_,h=>by simp[zbk] at h
 |y::r,n,k,h=>by
  unfold zbk at h
  split at h
  ·simp at h;subst h;exact⟨by simp,by simpa⟩
  ·cases hq:zbk r n with
   |none=>rw[hq] at h;simp at h
   |some j=>rw[hq] at h;simp at h;subst h;obtain⟨h1,h2⟩:=zje hq;exact⟨by simpa using h1,by simpa using h2⟩
theorem zon{l:List ByteArray}{n:ByteArray}{k:Nat}(hk:k < l.length)(hne:l[k]≠n):zbk (l.drop k) n=(zbk (l.drop (k+1)) n).map (·+1):=by rw[List.drop_eq_getElem_cons hk,zbk,if_neg hne]
theorem zow{l:List ByteArray}{n:ByteArray}{k:Nat}(hk:k < l.length)(he:l[k]=n):zbk (l.drop k) n=some 0:=by rw[List.drop_eq_getElem_cons hk,zbk,if_pos he]
theorem zkp:∀(l:List ByteArray) (n:ByteArray),(zbk l n).isSome=zp6 n l
 |[],n=>by rw[zxe.2 (by simp)];rfl
 |y::r,n=>by
  unfold zbk
  by_cases e:y=n
  ·rw[if_pos e,zf8.2 (by simp[e])];rfl
  ·rw[if_neg e,Option.isSome_map,zkp r n]
   cases h:zp6 n r with
   |true=>exact(zf8.2 (List.mem_cons_of_mem _ (zf8.1 h))).symm
   |false=>exact(zxe.2 (by have:=zxe.1 h;simp[this,Ne.symm e])).symm
theorem z03(w:World)(vb:Nat)(nv:Value)(vs:List ByteArray)(t:ByteArray)(hbox:Box w vb #[nv] 124)(hs:SIn lo w nv vs)(hl:vs.length<=1000) :
  Calls Tryz.prog 128 #[.pointer (some ⟨vb,0,none⟩),.string t] w fun e w'=>e=.returned (.tuple #[.int .i64 ((zbk vs t).getD 0:Nat),.bool (zbk vs t).isSome])/\w'=w:=by
 obtain⟨hc,hf⟩:=hbox.rules
 obtain⟨ao,cap,rfl⟩:=hs.shape
 go_enter Tryz.func128,Tryz.ntmps128
 go_wp2
 go_loop [13] (fun i=>∃ k:Nat,k<=vs.length/\i=.int .i64 k/\Hid (zbk vs t=(zbk (vs.drop k) t).map (·+k))) (fun i=>vs.length - (intOf i).toNat)
 case atStart=>exact⟨0,Nat.zero_le _,rfl,by simp[Hid]⟩
 case round =>
  obtain⟨k,hk,rfl,H⟩:=hrel
  by_cases hlt:k < vs.length
  ·obtain⟨g,rfl,hg,hck⟩:=hs.cell k hlt
   by_cases hx:vs[k]=t
   ·have he:=zfh hx
    have H2:Hid (zbk vs t=some k):=by rw[Hid,H.out,zow hlt hx];simp
    clear hx H
    generalize vs[k]=x at *
    go_wp2
    go_ret2
    exact⟨by rw[H2.out];rfl,rfl⟩
   ·have he:=zem hx
    have H2:Hid (zbk vs t=(zbk (vs.drop (k+1)) t).map (·+(k+1))):=by
     rw[Hid,H.out,zon hlt hx];cases zbk (vs.drop (k+1)) t <;> simp;omega
    clear hx H
    generalize vs[k]=x at *
    go_wp2
    go_round
    case rel=>exact⟨k+1,by omega,by go_num,H2⟩
    case measure=>simp[intOf];omega
  ·have H2:Hid (zbk vs t=none):=by rw[Hid,H.out,List.drop_eq_nil_of_le (by omega)];rfl
   clear H
   go_wp2
   go_ret2
   exact⟨by rw[H2.out];rfl,rfl⟩
theorem zsf(w:World)(vb:Nat)(nv:Value)(vs:List ByteArray)(t:ByteArray)(hbox:Box w vb #[nv] 124)(hs:SIn lo w nv vs)(hl:vs.length<=1000) :
  Calls Tryz.prog 109 #[.pointer (some ⟨vb,0,none⟩),.string t] w fun e w'=>e=.returned (.bool (zp6 t vs))/\w'=w:=by
 rw[← zkp vs t]
 have HP:Hid (Calls Tryz.prog 128 #[.pointer (some ⟨vb,0,none⟩),.string t] w fun e w'=>e=.returned (.tuple #[.int .i64 ((zbk vs t).getD 0:Nat),.bool (zbk vs t).isSome])/\w'=w):=z03 w vb nv vs t hbox hs hl
 generalize zbk vs t=o at *
 go_enter Tryz.func109,Tryz.ntmps109
 go_wp2_with (first|(go_at_call 128;refine HP.out.mono ?_;rintro e w' ⟨rfl,rfl⟩;clear HP))
 go_ret
 exact⟨rfl,rfl⟩
end Go.Proofs.YteampbddflhngabGreat

namespace Go.Proofs.YteampbddflhngabGreat
set_option maxRecDepth 100000
set_option maxHeartbeats 1000000
open Go.RowKit
variable {lo:Nat}
theorem Box.set{w:World}{b:Nat}{c:Array Value}{T:TypeId}(h:Box w b c T)(o:Nat)(u:Value):Box (w.setCell ⟨b,o,none⟩ u) b (c.setIfInBounds o u) T:=by
 unfold Box at *;simp[World.setCell,Array.getElem?_modify,h]
theorem Box.set_ne{w:World}{b b':Nat}{c:Array Value}{T:TypeId}(h:Box w b c T)(hne:b≠b')(o:Nat)(u:Value):Box (w.setCell ⟨b',o,none⟩ u) b c T:=by
 unfold Box at *;rw[Below.heap_setCell _ _ _ _ hne];exact h
theorem Box.push{wO w2:World}{b:Nat}{e T:TypeId}{s:Nat}{v:Value}{n bb:Nat}{xs:List Value}{c:Array Value}(hv:wO.ownsRow b e s v n xs)(hne:e≠T)(h:Box wO bb c T)
  (hk:∀ k,k < wO.heap.size->some k≠v.ownBlock->w2.heap[k]?=wO.heap[k]?):Box w2 bb c T:=by
 have hlt:=h.lt
 unfold Box at *
 rw[hk bb hlt ?_]
 ·exact h
 ·intro he
  obtain⟨_,⟨hv0,_⟩|⟨g',cap',cur',hv',_,hh',_⟩⟩:=hv
  ·subst hv0;cases he
  ·subst hv';simp only[Value.ownBlock,Option.some.injEq] at he;subst he;rw[h] at hh';simp at hh';exact hne hh'.2.symm
structure zpx (vb:Nat) (w w':World):Prop where
 size:w.heap.size<=w'.heap.size
 box:∀ b c T,b≠vb->T≠9->Box w b c T->Box w' b c T
theorem zpx.trans{vb:Nat}{a b c:World}(h:zpx vb a b)(k:zpx vb b c):zpx vb a c:=⟨Nat.le_trans h.size k.size,fun x y z h1 h2 h3=>k.box x y z h1 h2 (h.box x y z h1 h2 h3)⟩
theorem zpx.of{vb:Nat}{w w':World}(h:Below w.heap.size w w'):zpx vb w w':=⟨h.size,fun _ _ _ _ _ k=>k.below h⟩
def VA(B:Nat)(w:World)(vb:Nat)(vs:List ByteArray):Prop:=∃ nv,Box w vb #[nv] 124/\w.ownsRow B 9 1 nv vs.length (vs.map Value.string)
theorem VA.below{B:Nat}{w w':World}{vb:Nat}{vs:List ByteArray}(h:VA B w vb vs)(hb:Below w.heap.size w w'):VA B w' vb vs:=by
 obtain⟨nv,h1,h2⟩:=h;exact⟨nv,h1.below hb,zaa h2 hb⟩
theorem z0p(vs args:List ByteArray)(k:Nat)(hk:k < args.length):ze3 vs (args.take (k+1))=zs3 (ze3 vs (args.take k)) args[k]:=by
 unfold ze3;rw[List.take_succ_eq_append_getElem hk,List.foldl_append];rfl
theorem z8s{vs:List ByteArray}{t:ByteArray}(h1:zbb t=true)(h2:zp6 t vs=false):zs3 vs t=vs++[t]:=by simp[zs3,h1,h2]
theorem z7r{vs:List ByteArray}{t:ByteArray}(h1:zbb t=false):zs3 vs t=vs:=by simp[zs3,h1]
theorem z8d{vs:List ByteArray}{t:ByteArray}(h2:zp6 t vs=true):zs3 vs t=vs:=by simp[zs3,h2]
theorem add_any(w0 w:World)(vb:Nat)(vs args:List ByteArray)(neg:Bool)(pred:ByteArray)(va:Value)(h0:Below w0.heap.size w0 w)(hs:SIn lo w0 va args)(hva:VA w0.heap.size w vb vs)(hvb:w0.heap.size<=vb)(hl:vs.length+args.length<=1000) :
  Calls Tryz.prog 83 #[.pointer (some ⟨vb,0,none⟩),.agg #[.bool neg,.string pred,va]] w fun e w'=>e=.returned (.tuple #[])/\VA w0.heap.size w' vb (ze3 vs args)/\Below w0.heap.size w0 w'/\zpx vb w w':=by
 obtain⟨i0,hi,hz0,hzs,hzb⟩:=info_parts Tryz.infoString
 obtain⟨ao,cap,rfl⟩:=hs.shape
 have hsz0:=h0.size
 go_enter Tryz.func83,Tryz.ntmps83
 go_wp2
 go_loopw [9] (fun i wr=>∃ k:Nat,k<=args.length/\i=.int .i64 k/\VA w0.heap.size wr vb (ze3 vs (args.take k))/\Below w0.heap.size w0 wr/\zpx vb w wr) (fun i _=>args.length - (intOf i).toNat)
 case atStart =>
  have hb:=(Below.refl w.heap.size w).alloc (Nat.le_refl _) (.cells #[.bool neg,.string pred,.slice ao args.length cap] 45)
  exact⟨0,Nat.zero_le _,rfl,hva.below hb,zad h0 hb (Nat.le_refl _),zpx.of hb⟩
 case round =>
  obtain⟨k,hk,rfl,hvk,hbk,hkk⟩:=hrel
  by_cases hlt:k < args.length
  ·obtain⟨g,rfl,hg,hck⟩:=(hs.below hbk).cell k hlt
   have hsn:=z0p vs args k hlt
   have hlen:=zlg (args.take k) vs
   have htk:(args.take k).length=k:=by simp;omega
   rw[htk] at hlen
   clear htk
   generalize args[k]=t at *
   generalize ze3 vs (args.take k)=vk at *
   have HS:Hid (ze3 vs (args.take (k+1))=zs3 vk t):=hsn
   clear hsn
   cases hT:zbb t with
   |false =>
    have hR:ze3 vs (args.take (k+1))=vk:=by rw[HS.out,z7r hT]
    have HR:Hid (ze3 vs (args.take (k+1))=vk):=hR
    clear hR HS
    go_wp2_with (go_at_call 98;refine(zbw _ _).mono ?_;rintro e w' ⟨rfl,rfl⟩)
    go_roundw
    case rel=>exact⟨k+1,by omega,by go_num,by rw[HR.out];exact hvk,hbk,hkk⟩
    case measure=>simp[intOf];omega
   |true =>
    obtain⟨nv,hbx,hown⟩:=hvk
    obtain⟨ao2,cap2,rfl⟩:=zac hown
    obtain⟨hc,hf⟩:=hbx.rules
    cases hM:zp6 t vk with
    |true =>
     have hR:ze3 vs (args.take (k+1))=vk:=by rw[HS.out,z8d hM]
     have HR:Hid (ze3 vs (args.take (k+1))=vk):=hR
     clear hR HS
     go_wp2_with (first|(go_at_call 98;refine(zbw _ _).mono ?_;rintro e w' ⟨rfl,rfl⟩)|(go_at_call 109;refine(zsf _ vb _ vk t hbx hown (by omega)).mono ?_;rintro e w' ⟨rfl,rfl⟩))
     go_roundw
     case rel=>exact⟨k+1,by omega,by go_num,by rw[HR.out];exact⟨_,hbx,hown⟩,hbk,hkk⟩
     case measure=>simp[intOf];omega
    |false =>
     have hR:ze3 vs (args.take (k+1))=vk++[t]:=by rw[HS.out,z8s hT hM]
     have HR:Hid (ze3 vs (args.take (k+1))=vk++[t]):=hR
     clear hR HS
     go_wp2_with (first|(go_at_call 98;refine(zbw _ _).mono ?_;rintro e w' ⟨rfl,rfl⟩)|(go_at_call 109;refine(zsf _ vb _ vk t hbx hown (by omega)).mono ?_;rintro e w' ⟨rfl,rfl⟩)|(at_builtin;refine zg2 _ _ _ _ rfl (.tmp 25) (.tmp 27) 38 rfl w0.heap.size 9 i0 _ 1 16 Tryz.underlying38 hi hz0 hzs hzb rfl (by decide) _ _ _ rfl hown (Below.refl _ _) _ _ rfl (by simp) rfl (by simp[Value.oneCell']) (by omega) (by omega) hbk.size ?_;intro v' w2 ho2 hB2 hc2 hf2 hk2 hz2';clear hc2 hf2;obtain⟨ao3,cap3,rfl⟩:=zac ho2;have hbx2:=Box.push hown (by decide) hbx hk2;obtain⟨hc3,hf3⟩:=hbx2.rules))
     have hkb:zpx vb w' (w2.setCell ⟨vb,0,none⟩ (.slice ao3 (vk.length+1) cap3)):=⟨by simp[World.setCell];exact hz2',fun b c T h1 h2 h3=>(Box.push hown (Ne.symm h2) h3 hk2).set_ne h1 _ _⟩
     have hva2:VA w0.heap.size (w2.setCell ⟨vb,0,none⟩ (.slice ao3 (vk.length+1) cap3)) vb (vk++[t]):=⟨_,hbx2.set 0 _,by
      have:=zb9 ho2 ((But.refl vb w2).setCell 0 (.slice ao3 (vk.length+1) cap3)) hbx2 (by decide)
      simpa using this⟩
     go_roundw
     case rel=>exact⟨k+1,by omega,by go_num,by rw[HR.out];exact hva2,(hbk.trans hB2).setCell hvb _,hkk.trans hkb⟩
     case measure=>simp[intOf];omega
  ·have hE:args.take k=args:=List.take_of_length_le (by omega)
   rw[hE] at hvk
   clear hE
   go_wp2
   go_end0
   exact⟨rfl,hvk,hbk,hkk⟩
end Go.Proofs.YteampbddflhngabGreat

namespace Go.Proofs.YteampbddflhngabGreat
set_option maxRecDepth 100000
set_option maxHeartbeats 1000000
open Go.RowKit
variable {lo:Nat}
theorem LIn.cell{w:World}{ao:Option Addr}{n cap:Nat}{ls:List zb2}(h:LIn lo w (.slice ao n cap) ls)(k:Nat)(hk:k < ls.length):∃ g ao2 cap2,ao=some ⟨g,0,none⟩/\g < w.heap.size ∧
  w.cell? ⟨g,k * 3,none⟩=some (.bool ls[k].neg)/\w.cell? ⟨g,k * 3+1,none⟩=some (.string ls[k].pred)/\w.cell? ⟨g,k * 3+2,none⟩=some (.slice ao2 ls[k].args.length cap2)/\SIn lo w (.slice ao2 ls[k].args.length cap2) ls[k].args:=by
 obtain⟨xs,ho,hc⟩:=h
 obtain⟨g,cap',hv,_,hg,hcl⟩:=zam ho (by omega)
 simp at hv
 obtain⟨va,a1,a2,a3,a4⟩:=hc.at k ls[k] (by simp[hk])
 obtain⟨ao2,cap2,rfl⟩:=a4.shape
 exact⟨g,ao2,cap2,hv.1,hg,hcl _ _ a1,hcl _ _ a2,hcl _ _ a3,a4⟩
def zkw(vs:List ByteArray)(l:zb2):List ByteArray:=ze3 vs l.args
def zey(vs:List ByteArray)(l:zb2):List ByteArray:=if l.neg then vs else ze3 vs l.args
def zkx(c:zab):List ByteArray:=c.body.foldl zkw (ze3 [] c.head.args)
def zaf(c:zab):List ByteArray:=c.body.foldl zey []
def zcc(ls:List zb2):Nat:=ls.foldr (fun l n=>l.args.length+n) 0
theorem zhg(ls:List zb2):∀ k,k < ls.length->zcc (ls.take k)+(ls[k]?.map (·.args.length)).getD 0<=zcc ls:=by
 induction ls with
 |nil=>intro k h;simp at h
 |cons a ls ih =>
  intro k h
  cases k with
  |zero=>simp[zcc]
  |succ k=>have:=ih k (by simpa using h);simp[zcc] at this ⊢;omega
theorem z3p(ls:List zb2):∀ vs:List ByteArray,(ls.foldl zkw vs).length<=vs.length+zcc ls:=by
 induction ls with
 |nil=>intro vs;simp[zcc]
 |cons a ls ih=>intro vs;have:=ih (zkw vs a);have:=zlg a.args vs;simp[zcc,zkw] at *;omega
theorem zh1(ls:List zb2):∀ vs:List ByteArray,(ls.foldl zey vs).length<=vs.length+zcc ls:=by
 induction ls with
 |nil=>intro vs;simp[zcc]
 |cons a ls ih =>
  intro vs
  have h1:=ih (zey vs a)
  have h2:=zlg a.args vs
  have h3:(zey vs a).length<=vs.length+a.args.length:=by unfold zey;split <;> omega
  simp[zcc] at *;omega
theorem z9w(w:World)(c:zab)(va vb:Value)(hs:SIn lo w va c.head.args)(hb:LIn lo w vb c.body)(hl:c.head.args.length+zcc c.body<=1000)(hl2:c.body.length<=1000) :
  Calls Tryz.prog 91 #[.agg #[.bool c.head.neg,.string c.head.pred,va,vb]] w fun e w'=>∃ nv,e=.returned (.agg #[nv])/\w'.ownsRow w.heap.size 9 1 nv (zkx c).length ((zkx c).map Value.string)/\Below w.heap.size w w':=by
 obtain⟨ao,cap,rfl⟩:=hs.shape
 obtain⟨aob,capb,rfl⟩:=hb.shape
 have hb0:Below w.heap.size w (((w.alloc (.cells #[.bool c.head.neg,.string c.head.pred,.slice ao c.head.args.length cap,.slice aob c.body.length capb] 90)).alloc (.cells #[.slice none 0 0] 124)).alloc (.cells #[.slice none 0 0] 124)):=(by repeat'(first|with_reducible(first|exact zR _ _|assumption|refine zN ?_ _|refine zA ?_ ?_ _|refine zD ?_|refine zS ?_ ?_ _)|go_size))
 have hva0:VA w.heap.size (((w.alloc (.cells #[.bool c.head.neg,.string c.head.pred,.slice ao c.head.args.length cap,.slice aob c.body.length capb] 90)).alloc (.cells #[.slice none 0 0] 124)).alloc (.cells #[.slice none 0 0] 124)) (w.heap.size+2) []:=⟨_,by have:=Box.new ((w.alloc (.cells #[.bool c.head.neg,.string c.head.pred,.slice ao c.head.args.length cap,.slice aob c.body.length capb] 90)).alloc (.cells #[.slice none 0 0] 124)) #[.slice none 0 0] 124;simpa using this,World.ownsRow_nil _ _ _ _⟩
 have hres0:Box (((w.alloc (.cells #[.bool c.head.neg,.string c.head.pred,.slice ao c.head.args.length cap,.slice aob c.body.length capb] 90)).alloc (.cells #[.slice none 0 0] 124)).alloc (.cells #[.slice none 0 0] 124)) (w.heap.size+1) #[.slice none 0 0] 124:=by have:=(Box.new (w.alloc (.cells #[.bool c.head.neg,.string c.head.pred,.slice ao c.head.args.length cap,.slice aob c.body.length capb] 90)) #[.slice none 0 0] 124).below ((Below.refl _ _).alloc (Nat.le_refl _) (.cells #[.slice none 0 0] 124));simpa using this
 have hbx0:Box (((w.alloc (.cells #[.bool c.head.neg,.string c.head.pred,.slice ao c.head.args.length cap,.slice aob c.body.length capb] 90)).alloc (.cells #[.slice none 0 0] 124)).alloc (.cells #[.slice none 0 0] 124)) w.heap.size #[.bool c.head.neg,.string c.head.pred,.slice ao c.head.args.length cap,.slice aob c.body.length capb] 90:=((Box.new w _ _).below ((Below.refl _ _).alloc (Nat.le_refl _) _)).below ((Below.refl _ _).alloc (Nat.le_refl _) _)
 go_enter Tryz.func91,Tryz.ntmps91
 go_wp2_with (first|(go_at_call 83;refine(add_any w _ (w.heap.size+2) [] c.head.args _ _ _ (by exact hb0) hs (by exact hva0) (by omega) (by simp;omega)).mono ?_;rintro e w1 ⟨rfl,hva1,hb1,hk1⟩;have hres1:=hk1.box _ _ _ (by omega) (by decide) hres0;have hbx1:=hk1.box _ _ _ (by omega) (by decide) hbx0;obtain⟨hbc,hbf⟩:=hbx1.rules;have hsz1:=hbx1.lt))
 go_loopw [12] (fun i wr=>∃ k:Nat,k<=c.body.length/\i=.int .i64 k/\VA w.heap.size wr (w.heap.size+2) ((c.body.take k).foldl zkw (ze3 [] c.head.args))/\Below w.heap.size w wr/\Box wr (w.heap.size+1) #[.slice none 0 0] 124) (fun i _=>c.body.length - (intOf i).toNat)
 case atStart=>exact⟨0,Nat.zero_le _,rfl,hva1,hb1,hres1⟩
 case round =>
  obtain⟨k,hk,rfl,hvk,hbk,hrk⟩:=hrel
  have hszk:=hbk.size
  by_cases hlt:k < c.body.length
  ·obtain⟨g,ao2,cap2,rfl,hg,hc0,hc1,hc2,hsk⟩:=hb.cell k hlt
   have hd0:=(hbk.cell (p:=⟨g,k * 3,none⟩) hg).trans hc0
   have hd1:=(hbk.cell (p:=⟨g,k * 3+1,none⟩) hg).trans hc1
   have hd2:=(hbk.cell (p:=⟨g,k * 3+2,none⟩) hg).trans hc2
   have hgr:g < wr.heap.size:=by omega
   have hlen:=z3p (c.body.take k) (ze3 [] c.head.args)
   have hst:=zhg c.body k hlt
   have hlen0:=zlg c.head.args []
   have hsn:(c.body.take (k+1)).foldl zkw (ze3 [] c.head.args)=zkw ((c.body.take k).foldl zkw (ze3 [] c.head.args)) c.body[k]:=by rw[List.take_succ_eq_append_getElem hlt,List.foldl_append];rfl
   rw[List.getElem?_eq_getElem hlt] at hst
   simp only[Option.map_some,Option.getD_some] at hst
   clear hc0 hc1 hc2
   generalize c.body[k]=a at *
   generalize (c.body.take k).foldl zkw (ze3 [] c.head.args)=vk at *
   have HS:Hid ((c.body.take (k+1)).foldl zkw (ze3 [] c.head.args)=zkw vk a):=hsn
   clear hsn
   go_wp2_with (first|(go_at_call 83;refine(add_any w _ (w.heap.size+2) vk a.args _ _ _ (by exact(by repeat'(first|with_reducible(first|exact zR _ _|assumption|refine zN ?_ _|refine zA ?_ ?_ _|refine zD ?_|refine zS ?_ ?_ _)|go_size))) hsk (by exact hvk.below (by repeat'(first|with_reducible(first|exact zR _ _|assumption|refine zN ?_ _|refine zA ?_ ?_ _|refine zD ?_|refine zS ?_ ?_ _)|go_size))) (by omega) (by simp at *;omega)).mono ?_;rintro e w1 ⟨rfl,hva1,hb1,hk1⟩;have hres1:=hk1.box _ _ _ (by omega) (by decide) (hrk.below (by repeat'(first|with_reducible(first|exact zR _ _|assumption|refine zN ?_ _|refine zA ?_ ?_ _|refine zD ?_|refine zS ?_ ?_ _)|go_size)))))
   go_roundw
   case rel=>exact⟨k+1,by omega,by go_num,by rw[HS.out];exact hva1,hb1,hres1⟩
   case measure=>simp[intOf];omega
  ·have hE:c.body.take k=c.body:=List.take_of_length_le (by omega)
   rw[hE] at hvk
   obtain⟨nv,hbx,hown⟩:=hvk
   obtain⟨ao3,cap3,rfl⟩:=zac hown
   obtain⟨hc,hf⟩:=hbx.rules
   obtain⟨hc2,hf2⟩:=hrk.rules
   have hz1:=hbx.lt
   clear hE
   go_wp2
   have ho2:=zb9 hown ((But.refl (w.heap.size+1) wr).setCell 0 (.slice ao3 (c.body.foldl zkw (ze3 [] c.head.args)).length cap3)) hrk (by decide)
   exact bodyPost_ret (v:=.agg #[.slice ao3 (c.body.foldl zkw (ze3 [] c.head.args)).length cap3]) (by simp[results,Tryz.results91,go_sem,hc2]) rfl ⟨_,rfl,ho2,(by repeat'(first|with_reducible(first|exact zR _ _|assumption|refine zN ?_ _|refine zA ?_ ?_ _|refine zD ?_|refine zS ?_ ?_ _)|go_size))⟩
theorem zl1(w:World)(c:zab)(va vb:Value)(hs:SIn lo w va c.head.args)(hb:LIn lo w vb c.body)(hl:c.head.args.length+zcc c.body<=1000)(hl2:c.body.length<=1000) :
  Calls Tryz.prog 57 #[.agg #[.bool c.head.neg,.string c.head.pred,va,vb]] w fun e w'=>∃ nv,e=.returned (.agg #[nv])/\w'.ownsRow w.heap.size 9 1 nv (zaf c).length ((zaf c).map Value.string)/\Below w.heap.size w w':=by
 obtain⟨ao,cap,rfl⟩:=hs.shape
 obtain⟨aob,capb,rfl⟩:=hb.shape
 have hb0:Below w.heap.size w (((w.alloc (.cells #[.bool c.head.neg,.string c.head.pred,.slice ao c.head.args.length cap,.slice aob c.body.length capb] 90)).alloc (.cells #[.slice none 0 0] 124)).alloc (.cells #[.slice none 0 0] 124)):=(by repeat'(first|with_reducible(first|exact zR _ _|assumption|refine zN ?_ _|refine zA ?_ ?_ _|refine zD ?_|refine zS ?_ ?_ _)|go_size))
 have hva0:VA w.heap.size (((w.alloc (.cells #[.bool c.head.neg,.string c.head.pred,.slice ao c.head.args.length cap,.slice aob c.body.length capb] 90)).alloc (.cells #[.slice none 0 0] 124)).alloc (.cells #[.slice none 0 0] 124)) (w.heap.size+2) []:=⟨_,by have:=Box.new ((w.alloc (.cells #[.bool c.head.neg,.string c.head.pred,.slice ao c.head.args.length cap,.slice aob c.body.length capb] 90)).alloc (.cells #[.slice none 0 0] 124)) #[.slice none 0 0] 124;simpa using this,World.ownsRow_nil _ _ _ _⟩
 have hres0:Box (((w.alloc (.cells #[.bool c.head.neg,.string c.head.pred,.slice ao c.head.args.length cap,.slice aob c.body.length capb] 90)).alloc (.cells #[.slice none 0 0] 124)).alloc (.cells #[.slice none 0 0] 124)) (w.heap.size+1) #[.slice none 0 0] 124:=by have:=(Box.new (w.alloc (.cells #[.bool c.head.neg,.string c.head.pred,.slice ao c.head.args.length cap,.slice aob c.body.length capb] 90)) #[.slice none 0 0] 124).below ((Below.refl _ _).alloc (Nat.le_refl _) (.cells #[.slice none 0 0] 124));simpa using this
 have hbx0:Box (((w.alloc (.cells #[.bool c.head.neg,.string c.head.pred,.slice ao c.head.args.length cap,.slice aob c.body.length capb] 90)).alloc (.cells #[.slice none 0 0] 124)).alloc (.cells #[.slice none 0 0] 124)) w.heap.size #[.bool c.head.neg,.string c.head.pred,.slice ao c.head.args.length cap,.slice aob c.body.length capb] 90:=((Box.new w _ _).below ((Below.refl _ _).alloc (Nat.le_refl _) _)).below ((Below.refl _ _).alloc (Nat.le_refl _) _)
 go_enter Tryz.func57,Tryz.ntmps57
 go_wp2
 go_loopw [9] (fun i wr=>∃ k:Nat,k<=c.body.length/\i=.int .i64 k/\VA w.heap.size wr (w.heap.size+2) ((c.body.take k).foldl zey [])/\Below w.heap.size w wr/\Box wr (w.heap.size+1) #[.slice none 0 0] 124) (fun i _=>c.body.length - (intOf i).toNat)
 case atStart=>exact⟨0,Nat.zero_le _,rfl,hva0,hb0,hres0⟩
 case round =>
  obtain⟨k,hk,rfl,hvk,hbk,hrk⟩:=hrel
  have hszk:=hbk.size
  by_cases hlt:k < c.body.length
  ·obtain⟨g,ao2,cap2,rfl,hg,hc0,hc1,hc2,hsk⟩:=hb.cell k hlt
   have hd0:=(hbk.cell (p:=⟨g,k * 3,none⟩) hg).trans hc0
   have hd1:=(hbk.cell (p:=⟨g,k * 3+1,none⟩) hg).trans hc1
   have hd2:=(hbk.cell (p:=⟨g,k * 3+2,none⟩) hg).trans hc2
   have hgr:g < wr.heap.size:=by omega
   have hlen:=zh1 (c.body.take k) []
   have hst:=zhg c.body k hlt
   have hlen0:True:=trivial
   have hsn:(c.body.take (k+1)).foldl zey []=zey ((c.body.take k).foldl zey []) c.body[k]:=by rw[List.take_succ_eq_append_getElem hlt,List.foldl_append];rfl
   rw[List.getElem?_eq_getElem hlt] at hst
   simp only[Option.map_some,Option.getD_some] at hst
   clear hc0 hc1 hc2
   generalize c.body[k]=a at *
   generalize (c.body.take k).foldl zey []=vk at *
   have HS:Hid ((c.body.take (k+1)).foldl zey []=zey vk a):=hsn
   clear hsn
   cases hN:a.neg with
   |true =>
    rw[hN] at hd0
    have HR:Hid ((c.body.take (k+1)).foldl zey []=vk):=by rw[Hid,HS.out,zey,hN,if_pos rfl]
    clear HS hN
    go_wp2
    go_roundw
    case rel=>exact⟨k+1,by omega,by go_num,by rw[HR.out];exact hvk.below (by repeat'(first|with_reducible(first|exact zR _ _|assumption|refine zN ?_ _|refine zA ?_ ?_ _|refine zD ?_|refine zS ?_ ?_ _)|go_size)),(by repeat'(first|with_reducible(first|exact zR _ _|assumption|refine zN ?_ _|refine zA ?_ ?_ _|refine zD ?_|refine zS ?_ ?_ _)|go_size)),hrk.below (by repeat'(first|with_reducible(first|exact zR _ _|assumption|refine zN ?_ _|refine zA ?_ ?_ _|refine zD ?_|refine zS ?_ ?_ _)|go_size))⟩
    case measure=>simp[intOf];omega
   |false =>
    rw[hN] at hd0
    have HR:Hid ((c.body.take (k+1)).foldl zey []=ze3 vk a.args):=by rw[Hid,HS.out,zey,hN];rfl
    clear HS hN
    go_wp2_with (first|(go_at_call 83;refine(add_any w _ (w.heap.size+2) vk a.args _ _ _ (by exact(by repeat'(first|with_reducible(first|exact zR _ _|assumption|refine zN ?_ _|refine zA ?_ ?_ _|refine zD ?_|refine zS ?_ ?_ _)|go_size))) hsk (by exact hvk.below (by repeat'(first|with_reducible(first|exact zR _ _|assumption|refine zN ?_ _|refine zA ?_ ?_ _|refine zD ?_|refine zS ?_ ?_ _)|go_size))) (by omega) (by simp at *;omega)).mono ?_;rintro e w1 ⟨rfl,hva1,hb1,hk1⟩;have hres1:=hk1.box _ _ _ (by omega) (by decide) (hrk.below (by repeat'(first|with_reducible(first|exact zR _ _|assumption|refine zN ?_ _|refine zA ?_ ?_ _|refine zD ?_|refine zS ?_ ?_ _)|go_size)))))
    go_roundw
    case rel=>exact⟨k+1,by omega,by go_num,by rw[HR.out];exact hva1,hb1,hres1⟩
    case measure=>simp[intOf];omega
  ·have hE:c.body.take k=c.body:=List.take_of_length_le (by omega)
   rw[hE] at hvk
   obtain⟨nv,hbx,hown⟩:=hvk
   obtain⟨ao3,cap3,rfl⟩:=zac hown
   obtain⟨hc,hf⟩:=hbx.rules
   obtain⟨hc2,hf2⟩:=hrk.rules
   have hz1:=hbx.lt
   clear hE
   go_wp2
   have ho2:=zb9 hown ((But.refl (w.heap.size+1) wr).setCell 0 (.slice ao3 (c.body.foldl zey []).length cap3)) hrk (by decide)
   exact bodyPost_ret (v:=.agg #[.slice ao3 (c.body.foldl zey []).length cap3]) (by simp[results,Tryz.results57,go_sem,hc2]) rfl ⟨_,rfl,ho2,(by repeat'(first|with_reducible(first|exact zR _ _|assumption|refine zN ?_ _|refine zA ?_ ?_ _|refine zD ?_|refine zS ?_ ?_ _)|go_size))⟩
end Go.Proofs.YteampbddflhngabGreat
