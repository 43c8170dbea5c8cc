/- words of mayBe -/
import Derived.Test.YthogppennalobaaGreatDoorZl12
import Derived.Test.YthogppennalobaaGreatDoorZl03
set_option linter.unusedVariables false
set_option linter.unusedSimpArgs false
set_option maxRecDepth 100000
namespace Go.Proofs.YthogppennalobaaGreatDoor
open Go.RowKit Go.Sort Forest
structure Mid (n:Nd): Prop where
 subject:n.subject.length≤140737488355328
 client:n.client.length≤140737488355328
 audience:n.audience.length≤140737488355328
 scope:∀s∈n.scope,s.length≤140737488355328
 actors:∀s∈n.actors,s.length≤140737488355328
 secret:n.secret.length≤140737488355328
 data:n.data.length≤140737488355328
def mayP (p:Int)(n:Nd): Bool:=decide (1≤n.kind)&&decide (n.kind<6)&&decide (0≤p)&&prinP n.subject&&(n.client == []||nameP n.client)&&(n.audience == []||textP n.audience)&&decide ((n.scope.length:Int)≤16)&&n.scope.all scopeP&&riseP n.scope&&isTimeP n.born&&isTimeP n.exp&&decide ((n.actors.length:Int)≤4)&&n.actors.all prinP&&decide (0≤n.level)&&decide (n.level≤3)&&!(n.secret == [])&&decide ((n.secret.length:Int)≤64)&&decide ((n.data.length:Int)≤256)
theorem may_no2 {p:Int}{n:Nd}(h:(decide (0≤p))=false): mayP p n=false:=by
 unfold mayP
 rw [h]
 simp only [Bool.and_false,Bool.false_and]
theorem may_no6 {p:Int}{n:Nd}(h:(decide ((n.scope.length:Int)≤16))=false): mayP p n=false:=by
 unfold mayP
 rw [h]
 simp only [Bool.and_false,Bool.false_and]
theorem may_no11 {p:Int}{n:Nd}(h:(decide ((n.actors.length:Int)≤4))=false): mayP p n=false:=by
 unfold mayP
 rw [h]
 simp only [Bool.and_false,Bool.false_and]
end Go.Proofs.YthogppennalobaaGreatDoor
