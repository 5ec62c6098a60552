"""The choice among the nodes on which a task fits."""

from majordomo.fit import fits, free_size
from majordomo.tasks import NODE, SERVICE_BORN, SIZE, is_placed


def same_service(entries, node, service_born):
    """Return the number of the tasks of a service that are bound to or running on a node."""
    tasks = [value for kind, _, _, _, value in entries if kind == "task" and is_placed(value)]
    return len([task for task in tasks if task[NODE] == node and task[SERVICE_BORN] == service_born])


def choose_node(task_value, nodes):
    """Return the name of the best node for a task, or "" if it fits on none.

    Each node is given as (name, node_value, drained, assumed, same).
    """
    ranks = []
    for name, node_value, drained, assumed, same in nodes:
        if fits(task_value, node_value, drained, assumed):
            ranks.append((same, free_size(node_value, assumed) - task_value[SIZE], name))
    if not ranks:
        return ""
    return min(ranks)[2]
